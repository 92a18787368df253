/-
  The texts CkStates, CkSecret, CkCheck, RefSame, R8, HdLaw, FdConst, CkPublic, QuietAux, one behind the other, with what is used of them.
-/
import Derived.Test.YtapagihngaiebaaGreatJoined5
import Derived.Test.YtapagihngaiebaaGreatJoined1
import Derived.Deep.OwnRows
import Derived.Test.YtapagihngaiebaaGreatJoined4
import Derived.Test.YtapagihngaiebaaGreatRows
import Derived.WalkKit
import Derived.Deep.LoopGhost
import Derived.Test.YtapagihngaiebaaGreatJoined0
import Derived.Test.YtapagihngaiebaaGreatProg
namespace Go.Proofs.YtapagihngaiebaaGreat
set_option maxHeartbeats 4000000
section
open Go.RowKit
set_option linter.unusedSimpArgs false
set_option linter.unusedVariables false
set_option maxRecDepth 8000
theorem Ja1 {P : Program} (t e : TypeId) (z0 z1 : Value) (bytes : Nat) (ht : P.underlying t = some (.slice e)) (hinfo : (P.info? e).map (fun i => (i.zero, i.size, i.bytes)) = some (some (.agg #[z0, z1]), 2, bytes))
  (kl kc : IntKind) (n : Nat) (hbytes : bytes * n <= 281474976710656) (h63 : n <= 9223372036854775807) (w : World) :
  (Instr.makeSlice t (.int kl (n : Int)) (.int kc (n : Int))).run P w = .ok (.slice (some ⟨w.heap.size, 0, none⟩) n n) (w.alloc (.cells (madeCells #[z0, z1] (n * 2)) e)) := by
 obtain ⟨i, hi, hzz⟩ := Option.map_eq_some_iff.1 hinfo;simp only [Prod.mk.injEq] at hzz;obtain ⟨hz, hs, hb⟩ := hzz
 have hb' : (i.bytes : Int) * (n : Int) <= 281474976710656 := by
  have h : ((i.bytes * n : Nat) : Int) <= 281474976710656 := by rw [hb]; omega
  rwa [Int.natCast_mul] at h
 have hr := run_make (P := P) w t e i (.agg #[z0, z1]) ht hi hz kl kc n n (by omega) (Int.le_refl _) hb' (by omega);simp only [Int.toNat_natCast, hs] at hr;exact hr
theorem Jcq (z0 z1 : Value) (n k : Nat) (h : k < n) : (madeCells #[z0, z1] (n * 2))[k * 2]? = some z0 /\ (madeCells #[z0, z1] (n * 2))[k * 2 + 1]? = some z1 := by
 unfold madeCells;refine ⟨?_, ?_⟩
 ·simp [show k * 2 < n * 2 by omega]
 ·simp [show k * 2 + 1 < n * 2 by omega, show (k * 2 + 1) % 2 = 1 by omega]

theorem Jmb : (Tryz.prog.info? 50).map (fun i => (i.zero, i.size, i.bytes)) = some (some (.agg #[.bool false, .slice none 0 0]), 2, 32) := by kernel_rfl

structure Rnd (w0 : World) (p : Prg) (lo : Loc) (lb : Nat) (l : KV) (w : World) : Prop where
 v : VAt w lb p.cl l
 on : OnWay p l
 box : Blk w w0.heap.size #[.slice lo.ra p.rl lo.rc, .slice lo.ca p.cl lo.cc] 25
 pin : PIn w p lo
 more : More w0 w
theorem Rnd.step {w0 : World} {p : Prg} {lo : Loc} {lb : Nat} {l : KV} {w w' : World} (h0 : 0 < p.cl) (h : Rnd w0 p lo lb l w) (m : More w w') : Rnd w0 p lo lb l w' :=
 ⟨h.v.more m h0, h.on, h.box.more m, h.pin.more m, h.more.trans m⟩

theorem Jfq {w : World} {p : Prg} {lo : Loc} (hp : PIn w p lo) (h0 : 0 < p.cl) {zs zk : Array Value} (Hzs : ∀ k, k < p.cl -> zs[k * 2]? = some (.bool false) /\ zs[k * 2 + 1]? = some (.slice none 0 0)) (Hzk : ∀ k, k < 8 -> zk[k * 2]? = some (V 0) /\ zk[k * 2 + 1]? = some (.bool false)) :
  Rnd w p lo (w.heap.size + 1) (putV (fun _ => none) 0 zeroK) (((w.alloc (.cells #[.slice lo.ra p.rl lo.rc, .slice lo.ca p.cl lo.cc] 25)).alloc (.cells ((zs.setIfInBounds 0 (.bool true)).setIfInBounds 1 (.slice (some ⟨w.heap.size + 1 + 1, 0, none⟩) 8 8)) 50)).alloc (.cells zk 56)) := by
 have e0 := (Blk.last w #[.slice lo.ra p.rl lo.rc, .slice lo.ca p.cl lo.cc] 25).more (((More.refl _).alloc ((zs.setIfInBounds 0 (.bool true)).setIfInBounds 1 (.slice (some ⟨w.heap.size + 1 + 1, 0, none⟩) 8 8)) 50).alloc zk 56);have e1 := (by simpa using Blk.last (w.alloc (.cells #[.slice lo.ra p.rl lo.rc, .slice lo.ca p.cl lo.cc] 25)) ((zs.setIfInBounds 0 (.bool true)).setIfInBounds 1 (.slice (some ⟨w.heap.size + 1 + 1, 0, none⟩) 8 8)) 50 : Blk ((w.alloc (.cells #[.slice lo.ra p.rl lo.rc, .slice lo.ca p.cl lo.cc] 25)).alloc (.cells ((zs.setIfInBounds 0 (.bool true)).setIfInBounds 1 (.slice (some ⟨w.heap.size + 1 + 1, 0, none⟩) 8 8)) 50)) (w.heap.size + 1) ((zs.setIfInBounds 0 (.bool true)).setIfInBounds 1 (.slice (some ⟨w.heap.size + 1 + 1, 0, none⟩) 8 8)) 50).more ((More.refl _).alloc zk 56);have e2 := (by simpa using Blk.last ((w.alloc (.cells #[.slice lo.ra p.rl lo.rc, .slice lo.ca p.cl lo.cc] 25)).alloc (.cells ((zs.setIfInBounds 0 (.bool true)).setIfInBounds 1 (.slice (some ⟨w.heap.size + 1 + 1, 0, none⟩) 8 8)) 50)) zk 56 : Blk (((w.alloc (.cells #[.slice lo.ra p.rl lo.rc, .slice lo.ca p.cl lo.cc] 25)).alloc (.cells ((zs.setIfInBounds 0 (.bool true)).setIfInBounds 1 (.slice (some ⟨w.heap.size + 1 + 1, 0, none⟩) 8 8)) 50)).alloc (.cells zk 56)) (w.heap.size + 1 + 1) zk 56)
 have m0 := (((More.refl w).alloc #[.slice lo.ra p.rl lo.rc, .slice lo.ca p.cl lo.cc] 25).alloc ((zs.setIfInBounds 0 (.bool true)).setIfInBounds 1 (.slice (some ⟨w.heap.size + 1 + 1, 0, none⟩) 8 8)) 50).alloc zk 56;have hz0 := Hzs 0 h0
 have hs : 1 < zs.size := by
  have := hz0.2;rcases Nat.lt_or_ge 1 zs.size with h | h
  ·exact h
  ·rw [Array.getElem?_eq_none (by omega)] at this; cases this
 refine ⟨⟨fun k hk => ?_, fun j => e1.frozen j⟩, OnWay.start h0, e0, hp.more m0, m0⟩;by_cases e : k = 0
 ·subst e
  rw [J18];refine ⟨w.heap.size + 1 + 1, 8, e1.cell ?_, e1.cell ?_, fun j hj => ⟨⟨e2.cell (Hzk j hj).1, e2.cell (Hzk j hj).2⟩, e2.frozen _, e2.frozen _⟩, by omega⟩
  ·rw [Array.getElem?_setIfInBounds_ne (by omega), Array.getElem?_setIfInBounds_self_of_lt (by omega)]
  ·rw [Array.getElem?_setIfInBounds_self_of_lt (by simp; omega)]
 ·rw [J15 _ e]
  have := Hzs k hk;refine ⟨e1.cell ?_, e1.cell ?_⟩
  ·rw [Array.getElem?_setIfInBounds_ne (by omega), Array.getElem?_setIfInBounds_ne (by omega)]; exact this.1
  ·rw [Array.getElem?_setIfInBounds_ne (by omega), Array.getElem?_setIfInBounds_ne (by omega)]; exact this.2

structure OAt (w : World) (b : Bool) (a : Option Addr) (n c : Nat) (o : Option KS) : Prop where
 out : (o = none /\ b = false /\ a = none /\ n = 0 /\ c = 0) \/ ∃ s g, o = some s /\ b = true /\ a = some ⟨g, 0, none⟩ /\ n = 8 /\ KRow w g s
theorem OAt.more {w w' : World} (m : More w w') {b : Bool} {a : Option Addr} {n c : Nat} {o : Option KS} (h : OAt w b a n c o) : OAt w' b a n c o := by
 rcases h.out with h | ⟨s, g, h1, h2, h3, h4, h5⟩
 ·exact ⟨.inl h⟩
 ·exact ⟨.inr ⟨s, g, h1, h2, h3, h4, h5.more m⟩⟩
theorem CAt.oat {w : World} {lb k : Nat} {o : Option KS} (h : CAt w lb k o) : ∃ b a n c, w.cell? ⟨lb, k * 2, none⟩ = some (.bool b) /\ w.cell? ⟨lb, k * 2 + 1, none⟩ = some (.slice a n c) /\ OAt w b a n c o := by
 cases o with
 | none => exact ⟨false, none, 0, 0, h.1, h.2, ⟨.inl ⟨rfl, rfl, rfl, rfl, rfl⟩⟩⟩
 | some s =>
  obtain ⟨g, c, h1, h2, h3, _⟩ := h;exact ⟨true, some ⟨g, 0, none⟩, 8, c, h1, h2, ⟨.inr ⟨s, g, rfl, rfl, rfl, rfl, h3⟩⟩⟩

theorem Jco (b : Bool) (a : Option Addr) (n c g cg : Nat) (o : Option KS) (t : KS) (w : World) (h : OAt w b a n c o) (ht : KRow w g t) :
  Calls Tryz.prog 25 #[.agg #[.bool b, .slice a n c], st true g cg] w fun e w' => ∃ g' c', e = .returned (st true g' c') /\ w.heap.size <= g' /\ KRow w' g' (joinV o t) /\ More w w' := by
 rcases h.out with ⟨rfl, rfl, rfl, rfl, rfl⟩ | ⟨s, ga, rfl, rfl, rfl, rfl, hs⟩
 ·exact Jey _ ⟨_, _, _, rfl⟩ true g cg t w ht
 ·exact Jez true true ga c g cg s t w hs ht rfl
theorem Jcx (b : Bool) (a : Option Addr) (n c g cg : Nat) (o : Option KS) (t : KS) (w : World) (h : OAt w b a n c o) (ht : KRow w g t) :
  Calls Tryz.prog 26 #[st true g cg, .agg #[.bool b, .slice a n c]] w (Says (SameV t o) w) := by
 rcases h.out with ⟨rfl, rfl, rfl, rfl, rfl⟩ | ⟨s, ga, rfl, rfl, rfl, rfl, hs⟩
 ·refine (Jfs g cg w).mono ?_
  rintro e w' ⟨rfl, m⟩;exact Says.no (fun ⟨u, e, _⟩ => by cases e) m
 ·refine (Jft g cg ga c t s w ht hs).mono ?_
  rintro e w' ⟨r, rfl, hr, m⟩;refine ⟨r, rfl, hr.trans ⟨fun q => ⟨s, rfl, q⟩, fun ⟨u, e, q⟩ => ?_⟩, m⟩;cases e; exact q

theorem Jaf (p : Prg) (lo : Loc) (w : World) (hp : PIn w p lo) (hok : p.Ok 200 8) (hn : ∀ i, i < p.cl -> -9223372036854775808 <= (p.ins i).n /\ (p.ins i).n <= 9223372036854775807) :
  Calls Tryz.prog 12 #[.agg #[.slice lo.ra p.rl lo.rc, .slice lo.ca p.cl lo.cc]] w fun e w' => ∃ lb l, e = .returned (.slice (some ⟨lb, 0, none⟩) p.cl p.cl) /\ VAt w' lb p.cl l /\ Known p l /\ More w w' := by
 suffices hP : ∀ P : Ending -> World -> Prop, (∀ lb l w', VAt w' lb p.cl l -> Known p l -> More w w' -> P (.returned (.slice (some ⟨lb, 0, none⟩) p.cl p.cl)) w') -> Calls Tryz.prog 12 #[.agg #[.slice lo.ra p.rl lo.rc, .slice lo.ca p.cl lo.cc]] w P from hP _ (fun lb l w' h1 h2 h3 => ⟨lb, l, rfl, h1, h2, h3⟩)
 intro P hP0;have HP : Hid (∀ lb l w', VAt w' lb p.cl l -> Known p l -> More w w' -> P (.returned (.slice (some ⟨lb, 0, none⟩) p.cl p.cl)) w') := hP0;have H : Hid (PIn w p lo /\ p.Ok 200 8 /\ ∀ i, i < p.cl -> -9223372036854775808 <= (p.ins i).n /\ (p.ins i).n <= 9223372036854775807) := ⟨hp, hok, hn⟩;have h1 : 1 <= p.cl := hok.2.1;have h2 : p.cl <= 200 := hok.2.2.1;have hi1 : (1 : Int) <= p.cl := by omega
 have hi2 : (p.cl : Int) <= 200 := by omega
 clear hP0 hp hok hn;obtain ⟨cl, hcl⟩ : ∃ cl, p.cl = cl := ⟨_, rfl⟩;have Hcl : Hid (p.cl = cl) := hcl;rw [hcl] at h1 h2 hi1 hi2 |-;clear hcl;have hmk := Ja1 (P := Tryz.prog) 46 50 (.bool false) (.slice none 0 0) 32 Tryz.underlying46 Jmb .i64 .i64 cl (by omega) (by omega);have hmk2 := Ja1 (P := Tryz.prog) 48 56 (V 0) (.bool false) 16 Tryz.underlying48 Jjk .i64 .i64 8 (by omega) (by omega)
 push_cast at hmk2
 obtain ⟨zs, hzs⟩ : ∃ z, madeCells #[.bool false, .slice none 0 0] (cl * 2) = z := ⟨_, rfl⟩;obtain ⟨zk, hzk⟩ : ∃ z, madeCells #[V 0, .bool false] (8 * 2) = z := ⟨_, rfl⟩;have Hzs : Hid (∀ k, k < cl -> zs[k * 2]? = some (.bool false) /\ zs[k * 2 + 1]? = some (.slice none 0 0)) := fun k hk => hzs ▸ Jcq _ _ _ _ hk
 have Hzk : Hid (∀ k, k < 8 -> zk[k * 2]? = some (V 0) /\ zk[k * 2 + 1]? = some (.bool false)) := fun k hk => hzk ▸ Jcq _ _ _ _ hk
 rw [hzs] at hmk;rw [hzk] at hmk2;clear hzs hzk;have z0 : zs[0]? = some (.bool false) := by have := (Hzs.out 0 (by omega)).1; simpa using this
 have z1 : zs[1]? = some (.slice none 0 0) := by have := (Hzs.out 0 (by omega)).2; simpa using this
 obtain ⟨ra, rb, ro, rc, ca, cb, co, cc⟩ := lo;dsimp only at *;obtain ⟨W0, HW0⟩ : ∃ W0 : World, Hid (W0 = ((w.alloc (.cells #[.slice ra p.rl rc, .slice ca cl cc] 25)).alloc (.cells ((zs.setIfInBounds 0 (.bool true)).setIfInBounds 1 (.slice (some ⟨w.heap.size + 1 + 1, 0, none⟩) 8 8)) 50)).alloc (.cells zk 56)) := ⟨_, rfl⟩
 have HR0 : Hid (Rnd w p ⟨ra, rb, ro, rc, ca, cb, co, cc⟩ (w.heap.size + 1) (putV (fun _ => none) 0 zeroK) W0) := by
  have := Jfq (zs := zs) (zk := zk) H.out.1 (by have := Hcl.out; omega) (by rw [Hcl.out]; exact Hzs.out) Hzk.out;dsimp only at this;rw [Hcl.out] at this;rw [HW0.out]; exact this
 go_enter Tryz.func12, Tryz.ntmps12;go_wp2_with (fail)
 rw [<- HW0.out];clear hmk hmk2 z0 z1;go_loopg [4] (145 * cl + 1) (fun g av wr => ∃ (b : Bool) (L : KV), av = .bool b /\ Hid (Rnd w p ⟨ra, rb, ro, rc, ca, cb, co, cc⟩ (w.heap.size + 1) L wr /\ (b = false -> ∀ k, k < p.cl -> Held p L k) /\ (b = true -> 145 * cl < rankV L p.cl + g)))
 case atStart => exact ⟨true, _, rfl, HR0.out, fun h => absurd h (by simp), fun _ => by omega⟩
 case round =>
  obtain ⟨b, L, rfl, HL⟩ := hrel;cases b with
  | false =>
   have HE : Hid (VAt wr (w.heap.size + 1) p.cl L /\ Known p L /\ More w wr) := ⟨HL.out.1.v, HL.out.1.on.known (fun k s hk e => HL.out.2.1 rfl k hk s e), HL.out.1.more⟩;clear HL;go_wp2;have hE := HP.out _ L _ HE.out.1 HE.out.2.1 HE.out.2.2;rw [Hcl.out] at hE;exact hE
  | true =>
   cases gk with
   | zero =>
    have q := HL.out.2.2 rfl;have q2 := J63 HL.out.1.on.norm p.cl (Nat.le_refl _);rw [Hcl.out] at q q2;omega
   | succ g =>
    have HQ : Hid (145 * cl < rankV L p.cl + (g + 1)) := HL.out.2.2 rfl;have HR : Hid (Rnd w p ⟨ra, rb, ro, rc, ca, cb, co, cc⟩ (w.heap.size + 1) L wr) := HL.out.1;clear HL;go_wp2_with (fail)
    go_loopg [4, 5] cl (fun g2 av iv wr2 => ∃ (k : Nat) (b : Bool) (L2 : KV), k + g2 = cl /\ iv = V k /\ av = .bool b /\ Hid (Rnd w p ⟨ra, rb, ro, rc, ca, cb, co, cc⟩ (w.heap.size + 1) L2 wr2 /\ (b = false -> ∀ j, j < k -> Held p L2 j) /\ rankV L p.cl <= rankV L2 p.cl /\ (b = true -> rankV L p.cl < rankV L2 p.cl)))
    case atStart => exact ⟨0, false, L, by omega, rfl, rfl, HR.out, fun _ j hj => absurd hj (Nat.not_lt_zero _), Nat.le_refl _, fun h => absurd h (by simp)⟩
    case round =>
     obtain ⟨k, b2, L2, hkg, rfl, rfl, HM⟩ := hrel;obtain ⟨wm, rfl⟩ : ∃ wm, wm = wr := ⟨wr, rfl⟩;have HV : Hid (Rnd w p ⟨ra, rb, ro, rc, ca, cb, co, cc⟩ (w.heap.size + 1) L2 wm) := HM.out.1;have HH : Hid (b2 = false -> ∀ j, j < k -> Held p L2 j) := HM.out.2.1;have HK : Hid (rankV L p.cl <= rankV L2 p.cl /\ (b2 = true -> rankV L p.cl < rankV L2 p.cl)) := HM.out.2.2;clear HM;cases gk with
     | zero =>
      obtain rfl : k = cl := by omega
      go_wp2;go_roundg g
      case measure => omega
      case rel =>
       refine ⟨b2, L2, rfl, HV.out, fun h j hj => HH.out h j (by rw [<- Hcl.out]; exact hj), fun h => ?_⟩;have q1 := HK.out.2 h;have q2 := HQ.out;omega
     | succ g2 =>
      have hk : k < cl := by omega
      have hki : (k : Int) < cl := by omega
      have hca := HV.out.v.at_ k (by rw [Hcl.out]; exact hk);cases eL : L2 k with
      | none =>
       rw [eL] at hca;have c0 := hca.1;have HeL : Hid (L2 k = none) := eL;clear hca eL;go_wp2;go_roundg g2
       case measure => omega
       case rel =>
        refine ⟨k + 1, b2, L2, by omega, by first | rfl | simp, rfl, HV.out, fun h j hj => ?_, HK.out⟩;by_cases q : j = k
        ·subst q; intro s e; rw [HeL.out] at e; cases e
        ·exact HH.out h j (by omega)
      | some s =>
       rw [eL] at hca;obtain ⟨gs, cs, c0, c1, hks, hgne⟩ := hca;have HeL : Hid (L2 k = some s) := eL;have Hks : Hid (KRow wm gs s) := hks;clear eL hks hgne;obtain ⟨S, HS⟩ : ∃ S : World -> Prop, Hid (∀ w', S w' ↔ More wm w') := ⟨_, fun _ => Iff.rfl⟩;have HS0 : S wm.drew := (HS.out _).2 (More.refl _).drew;have hne : Nonempty { w' // S w' } := ⟨⟨_, HS0⟩⟩;have k0 : ∀ i : { w' // S w' }, i.val.cell? ⟨w.heap.size + 1, k * 2, none⟩ = some (.bool true) := fun i => ((HS.out _).1 i.property).cell c0
       have k1 : ∀ i : { w' // S w' }, i.val.cell? ⟨w.heap.size + 1, k * 2 + 1, none⟩ = some (.slice (some ⟨gs, 0, none⟩) 8 cs) := fun i => ((HS.out _).1 i.property).cell c1
       have k2 : ∀ i : { w' // S w' }, i.val.cell? ⟨w.heap.size, 0, none⟩ = some (.slice ra p.rl rc) := fun i => (HV.out.box.more ((HS.out _).1 i.property)).cell rfl
       have k3 : ∀ i : { w' // S w' }, i.val.cell? ⟨w.heap.size, 1, none⟩ = some (.slice ca cl cc) := fun i => by have := (HV.out.box.more ((HS.out _).1 i.property)).cell (j := 1) rfl; rw [Hcl.out] at this; exact this
       have cld : ∀ w1 : World, More wm w1 -> Calls Tryz.prog 13 #[.agg #[.slice ra p.rl rc, .slice ca cl cc], V k, st true gs cs] w1 fun e w' => ∃ v, e = .returned v /\ LdAt w' w1.heap.size v (J0f p k s) /\ More w1 w' := fun w1 m => by
        have hkp : k < p.cl := by rw [Hcl.out]; exact hk
        have := J6r p ⟨ra, rb, ro, rc, ca, cb, co, cc⟩ k gs cs s w1 (HV.out.pin.more m) hkp H.out.2.1.2.2.1 (H.out.2.1.2.2.2 k hkp) (H.out.2.2 k hkp).1 (H.out.2.2 k hkp).2 (Hks.out.more m);dsimp only at this;rw [Hcl.out] at this;exact this
       have Hld : Hid (∀ w1 : World, More wm w1 -> Calls Tryz.prog 13 #[.agg #[.slice ra p.rl rc, .slice ca cl cc], V k, st true gs cs] w1 fun e w' => ∃ v, e = .returned v /\ LdAt w' w1.heap.size v (J0f p k s) /\ More w1 w') := cld;clear cld;go_wp2_with (fail)
       refine J03 (S := S) [(0, true), (1, true), (2, true), (3, true), (4, true), (5, true), (6, false), (7, true)] (by kernel_rfl) (by kernel_rfl) (by kernel_rfl) HS0 ?_
       iterate 6 (refine J00 rfl (by kernel_rfl) (fun K hK => ?_); go_simp; refine hK _ _ ?_; clear hK K)
       refine J02 rfl (by kernel_rfl) (fun K hK => ?_); go_simp;refine (Hld.out _ (More.refl _).drew).mono ?_;rintro e w3 ⟨lv, rfl, hlv, m3⟩;have Hm3 : Hid (More wm w3) := (More.refl _).drew.trans m3;have HS3 : S w3 := (HS.out _).2 Hm3.out;obtain ⟨ls, hls⟩ : ∃ ls, J0f p k s = ls := ⟨_, rfl⟩;have Hls : Hid (J0f p k s = ls) := hls;rw [hls] at hlv;clear hls;have Hlv0 : Hid (LdAt w3 wm.heap.size lv ls) := hlv;obtain ⟨la, lbk, lcap, rfl, hla, _, hl2, _⟩ := hlv;obtain ⟨nl, hnl⟩ : ∃ nl, ls.length = nl := ⟨_, rfl⟩;rw [hnl] at hla hl2 |-;have Hlv1 : Hid (LdAt w3 wm.heap.size (.slice la nl lcap) ls) := by have := Hlv0.out; rw [hnl] at this; exact this
       have Hnl : Hid (ls.length = nl /\ (0 < nl -> la = some ⟨lbk, 0, none⟩)) := ⟨hnl, hla⟩;clear m3 hnl hla
       go_simp
       refine hK _ _ HS3 ?_; clear hK K
       (refine J00 rfl (by kernel_rfl) (fun K hK => ?_); go_simp; refine hK _ _ ?_; clear hK K)
       refine J04 ?_;clear k0 k1 k2 k3 hne HS0 HS3 c0 c1;go_wp2_with (fail)
       go_loopg [4, 7] nl (fun g3 av iv wr3 => ∃ (j : Nat) (b3 : Bool) (L3 : KV), j + g3 = nl /\ iv = V j /\ av = .bool b3 /\ Hid (Rnd w p ⟨ra, rb, ro, rc, ca, cb, co, cc⟩ (w.heap.size + 1) L3 wr3 /\ LdAt wr3 wm.heap.size (.slice la nl lcap) ls /\ (b3 = false -> b2 = false /\ L3 = L2 /\ ∀ i, i < j -> ∀ x, ls[i]? = some x -> x.1 < p.cl -> ∃ u, L2 x.1 = some u /\ leS x.2 u) /\ rankV L2 p.cl <= rankV L3 p.cl /\ (b3 = true -> b2 = true \/ rankV L2 p.cl < rankV L3 p.cl)))
       case atStart => exact ⟨0, b2, L2, by omega, rfl, rfl, HV.out.step (by have := Hcl.out; omega) Hm3.out, Hlv1.out, fun h => ⟨h, rfl, fun i hi => absurd hi (Nat.not_lt_zero _)⟩, Nat.le_refl _, fun h => .inl h⟩
       case round =>
        obtain ⟨j, b3, L3, hjg, rfl, rfl, HJ⟩ := hrel;obtain ⟨wr3, rfl⟩ : ∃ wr3, wr3 = wr := ⟨wr, rfl⟩;have HJ1 : Hid (Rnd w p ⟨ra, rb, ro, rc, ca, cb, co, cc⟩ (w.heap.size + 1) L3 wr3) := HJ.out.1;have HJ2 : Hid (LdAt wr3 wm.heap.size (.slice la nl lcap) ls) := HJ.out.2.1;have HJ3 : Hid (b3 = false -> b2 = false /\ L3 = L2 /\ ∀ i, i < j -> ∀ x, ls[i]? = some x -> x.1 < p.cl -> ∃ u, L2 x.1 = some u /\ leS x.2 u) := HJ.out.2.2.1;have HJ4 : Hid (rankV L2 p.cl <= rankV L3 p.cl /\ (b3 = true -> b2 = true \/ rankV L2 p.cl < rankV L3 p.cl)) := HJ.out.2.2.2;clear HJ;cases gk with
        | zero =>
         obtain rfl : j = nl := by omega
         go_wp2;go_roundg g2
         case measure => omega
         case rel =>
          refine ⟨k + 1, b3, L3, by omega, by first | rfl | simp, rfl, HJ1.out, fun h i hi => ?_, by have := HK.out.1; have := HJ4.out.1; omega, fun h => ?_⟩
          ·obtain ⟨q1, q2, q3⟩ := HJ3.out h
           rw [q2];by_cases q : i = k
           ·subst q
            intro s' e' x hx hxc;rw [HeL.out] at e';cases e'
            rw [Hls.out] at hx;obtain ⟨i', hi', hx'⟩ := List.mem_iff_getElem.1 hx;exact q3 i' (by rw [<- Hnl.out.1]; exact hi') x (by rw [List.getElem?_eq_getElem hi', hx']) hxc
           ·exact HH.out q1 i (by omega)
          ·rcases HJ4.out.2 h with q | q
           ·have := HK.out.2 q; have := HJ4.out.1; omega
           ·have := HK.out.1; omega
        | succ g3 =>
         have hj : j < nl := by omega
         have hji : (j : Int) < nl := by omega
         have hnli : (nl : Int) <= 2 := by omega
         obtain ⟨x, hx⟩ : ∃ x, ls[j]? = some x := ⟨ls[j]'(by rw [Hnl.out.1]; exact hj), List.getElem?_eq_getElem _⟩;obtain rfl : la = some ⟨lbk, 0, none⟩ := Hnl.out.2 (by omega);obtain ⟨_, lbk', _, hsl, hlb', hlob, _, hcells⟩ := HJ2.out;obtain ⟨gx, cx, l0, l1, l2, hkx, hgx⟩ := hcells j x hx
         have hlbk : lbk' = lbk := by
          have h1 := hlb' (by rw [Hnl.out.1]; omega)
          injection hsl with h2 _ _
          rw [h1] at h2
          injection h2 with h3
          injection h3 with h4
          exact h4.symm
         subst hlbk;obtain ⟨xto, xs⟩ := x;dsimp only at l0 hkx;have HKX : Hid (KRow wr3 gx xs) := hkx;clear hsl hlb' hcells hkx;by_cases hxc : p.cl <= xto
         ·have hxi : (cl : Int) <= xto := by have := Hcl.out; omega
          have Hxc : Hid (p.cl <= xto /\ ls[j]? = some (xto, xs)) := ⟨hxc, hx⟩;clear hxc hx;go_wp2;go_roundg g3
          case measure => omega
          case rel =>
           refine ⟨j + 1, b3, L3, by omega, by first | rfl | simp, rfl, HJ1.out, HJ2.out, fun h => ?_, HJ4.out⟩;obtain ⟨q1, q2, q3⟩ := HJ3.out h;refine ⟨q1, q2, fun i hi y hy hyc => ?_⟩;by_cases q : i = j
           ·subst q
            rw [Hxc.out.2] at hy;cases hy
            have := Hxc.out.1;dsimp only at hyc;omega
           ·exact q3 i (by omega) y hy hyc
         ·have hxi : ¬ (cl : Int) <= xto := by have := Hcl.out; omega
          have hxl : (xto : Int) < cl := by omega
          have HX : Hid (ls[j]? = some (xto, xs) /\ Just p (xto, xs) /\ xto < p.cl) := ⟨hx, HV.out.on.just H.out.2.1 (by rw [Hcl.out]; exact hk) HeL.out (by rw [Hls.out]; exact List.mem_of_getElem? hx), by omega⟩;clear hxc hx;obtain ⟨bo, oa, on, oc, d0, d1, hO⟩ := (HJ1.out.v.at_ xto HX.out.2.2).oat;have HO : Hid (OAt wr3 bo oa on oc (L3 xto)) := hO;clear hO;obtain ⟨S, HS⟩ : ∃ S : World -> Prop, Hid (∀ w', S w' ↔ More wr3 w') := ⟨_, fun _ => Iff.rfl⟩;have HS0 : S wr3.drew := (HS.out _).2 (More.refl _).drew;have hne : Nonempty { w' // S w' } := ⟨⟨_, HS0⟩⟩;have k0 : ∀ i : { w' // S w' }, i.val.cell? ⟨w.heap.size + 1, xto * 2, none⟩ = some (.bool bo) := fun i => ((HS.out _).1 i.property).cell d0
          have k1 : ∀ i : { w' // S w' }, i.val.cell? ⟨w.heap.size + 1, xto * 2 + 1, none⟩ = some (.slice oa on oc) := fun i => ((HS.out _).1 i.property).cell d1
          have k2 : ∀ i : { w' // S w' }, i.val.cell? ⟨lbk', j * 3, none⟩ = some (V xto) := fun i => ((HS.out _).1 i.property).cell l0
          have k3 : ∀ i : { w' // S w' }, i.val.cell? ⟨lbk', j * 3 + 1, none⟩ = some (.bool true) := fun i => ((HS.out _).1 i.property).cell l1
          have k4 : ∀ i : { w' // S w' }, i.val.cell? ⟨lbk', j * 3 + 2, none⟩ = some (.slice (some ⟨gx, 0, none⟩) 8 cx) := fun i => ((HS.out _).1 i.property).cell l2
          have k5 : ∀ i : { w' // S w' }, i.val.cell? ⟨lbk', j * 3 + 1 + 1, none⟩ = some (.slice (some ⟨gx, 0, none⟩) 8 cx) := fun i => ((HS.out _).1 i.property).cell l2
          go_wp2_with (fail)
          clear l0 l1 l2;refine J1m (S := S) (by kernel_rfl) HS0 ?_;refine J08 0 rfl (by kernel_rfl) HS0 (by kernel_rfl) (fun K hK => ?_); go_simp; refine hK _ _ ?_; clear hK K;refine J08 1 rfl (by kernel_rfl) HS0 (by kernel_rfl) (fun K hK => ?_); go_simp; refine hK _ _ ?_; clear hK K;refine J08 2 rfl (by kernel_rfl) HS0 (by kernel_rfl) (fun K hK => ?_); go_simp; refine hK _ _ ?_; clear hK K;refine J08 3 rfl (by kernel_rfl) HS0 (by kernel_rfl) (fun K hK => ?_); go_simp; refine hK _ _ ?_; clear hK K;refine J08 4 rfl (by kernel_rfl) HS0 (by kernel_rfl) (fun K hK => ?_); go_simp; refine hK _ _ ?_; clear hK K;refine J08 5 rfl (by kernel_rfl) HS0 (by kernel_rfl) (fun K hK => ?_); go_simp; refine hK _ _ ?_; clear hK K;refine J08 6 rfl (by kernel_rfl) HS0 (by kernel_rfl) (fun K hK => ?_); go_simp; refine hK _ _ ?_; clear hK K;refine J08 7 rfl (by kernel_rfl) HS0 (by kernel_rfl) (fun K hK => ?_); go_simp; refine hK _ _ ?_; clear hK K;refine J08 8 rfl (by kernel_rfl) HS0 (by kernel_rfl) (fun K hK => ?_); go_simp; refine hK _ _ ?_; clear hK K;refine J3o 9 10 (by kernel_rfl) ?_ ?_
          ·-- the call, then the new block
           refine J0a rfl (by kernel_rfl) (fun K hK => ?_); go_simp;refine (Jco bo oa on oc gx cx (L3 xto) xs _ (HO.out.more (More.refl _).drew) (HKX.out.more (More.refl _).drew)).mono ?_;rintro e w5 ⟨gj, cj, rfl, hgj, hjr, m5⟩;have M5 : Hid (More wr3 w5) := (More.refl _).drew.trans m5;have HJ5 : Hid (KRow w5 gj (joinV (L3 xto) xs) /\ wr3.heap.size <= gj) := ⟨hjr, by simpa using hgj⟩;clear m5 hjr hgj
           go_simp
           refine hK _ _ ((HS.out _).2 M5.out) ?_; clear hK K;refine J0x 10 (by kernel_rfl) ?_;refine J0a rfl (by kernel_rfl) (fun K hK => ?_); go_simp;refine hK _ _ ((HS.out _).2 (M5.out.alloc _ _)) ?_; clear hK K;refine J0x 11 (by kernel_rfl) ?_;refine J0a rfl (by kernel_rfl) (fun K hK => ?_); go_simp;obtain ⟨w6, Hw6⟩ : ∃ w6 : World, Hid (w6 = w5.alloc (.cells #[.bool true, .slice (some ⟨gj, 0, none⟩) 8 cj] 50)) := ⟨_, rfl⟩;have HM6 : Hid (More wr3 w6) := Hw6.out ▸ M5.out.alloc _ _;obtain ⟨bx, Hbx⟩ : ∃ bx, Hid (bx = w5.heap.size) := ⟨_, rfl⟩;have HB6 : Hid (Blk w6 bx #[.bool true, .slice (some ⟨gj, 0, none⟩) 8 cj] 50) := Hw6.out ▸ Hbx.out ▸ Blk.last _ _ _;have HJ6 : Hid (KRow w6 gj (joinV (L3 xto) xs)) := HJ5.out.1.more (Hw6.out ▸ (More.refl _).alloc _ _);have HG6 : Hid (w.heap.size + 1 < gj) := by show _ < _; have := HJ5.out.2; have := (HJ1.out.v.at_ 0 (by have := Hcl.out; omega)).lt; omega
           rw [<- Hw6.out, <- Hbx.out];refine hK _ _ ((HS.out _).2 HM6.out) ?_; clear hK K;refine J3y (by kernel_rfl) ?_;clear k0 k1 k2 k3 k4 k5 hne HS0;have HR6 : Hid (Rnd w p ⟨ra, rb, ro, rc, ca, cb, co, cc⟩ (w.heap.size + 1) L3 w6 /\ LdAt w6 wm.heap.size (.slice (some ⟨lbk', 0, none⟩) nl lcap) ls) := ⟨HJ1.out.step (by have := Hcl.out; omega) HM6.out, HJ2.out.more HM6.out⟩;have HO6 : Hid (OAt w6 bo oa on oc (L3 xto)) := HO.out.more HM6.out;obtain ⟨T, HT⟩ : ∃ T : World -> Prop, Hid (∀ w', T w' ↔ More w6 w') := ⟨_, fun _ => Iff.rfl⟩;have HT0 : T w6.drew := (HT.out _).2 (More.refl _).drew;have hneT : Nonempty { w' // T w' } := ⟨⟨_, HT0⟩⟩;have t0 : ∀ i : { w' // T w' }, i.val.cell? ⟨bx, 0, none⟩ = some (.bool true) := fun i => (HB6.out.more ((HT.out _).1 i.property)).cell rfl
           have t1 : ∀ i : { w' // T w' }, i.val.cell? ⟨bx, 1, none⟩ = some (.slice (some ⟨gj, 0, none⟩) 8 cj) := fun i => (HB6.out.more ((HT.out _).1 i.property)).cell rfl
           have t2 : ∀ i : { w' // T w' }, i.val.cell? ⟨w.heap.size + 1, xto * 2, none⟩ = some (.bool bo) := fun i => (HM6.out.trans ((HT.out _).1 i.property)).cell d0
           have t3 : ∀ i : { w' // T w' }, i.val.cell? ⟨w.heap.size + 1, xto * 2 + 1, none⟩ = some (.slice oa on oc) := fun i => (HM6.out.trans ((HT.out _).1 i.property)).cell d1
           go_wp2_with (fail)
           refine J03 (S := T) [(0, true), (1, true), (2, true), (3, true), (4, true), (5, false), (6, true)] (by kernel_rfl) (by kernel_rfl) (by kernel_rfl) HT0 ?_
           iterate 5 (refine J00 rfl (by kernel_rfl) (fun K hK => ?_); go_simp; refine hK _ _ ?_; clear hK K)
           refine J02 rfl (by kernel_rfl) (fun K hK => ?_); go_simp;refine (Jcx bo oa on oc gj cj (L3 xto) (joinV (L3 xto) xs) _ (HO6.out.more (More.refl _).drew) (HJ6.out.more (More.refl _).drew)).mono ?_;rintro e w7 ⟨r, rfl, hr, m7⟩;have HM7 : Hid (More w6 w7) := (More.refl _).drew.trans m7;have HT7 : T w7 := (HT.out _).2 HM7.out;have Hr : Hid (r = true ↔ SameV (joinV (L3 xto) xs) (L3 xto)) := hr;clear hr m7;cases r with
           | true =>
            have Hs : Hid (SameV (joinV (L3 xto) xs) (L3 xto)) := Hr.out.1 rfl;clear Hr
            go_simp
            refine hK _ _ HT7 ?_; clear hK K
            (refine J00 rfl (by kernel_rfl) (fun K hK => ?_); go_simp; refine hK _ _ ?_; clear hK K)
            refine J04 ?_;clear t0 t1 t2 t3 hneT HT0 HT7 d0 d1;go_wp2;go_roundg g3
            case measure => omega
            case rel =>
             refine ⟨j + 1, b3, L3, by omega, by first | rfl | simp, rfl, HR6.out.1.step (by have := Hcl.out; omega) HM7.out, HR6.out.2.more HM7.out, fun h => ?_, HJ4.out.1, HJ4.out.2⟩;obtain ⟨q1, q2, q3⟩ := HJ3.out h;refine ⟨q1, q2, fun i hi y hy hyc => ?_⟩;by_cases q : i = j
             ·subst q
              rw [HX.out.1] at hy;cases hy
              rw [<- q2];exact J3v Hs.out
             ·exact q3 i (by omega) y hy hyc
           | false =>
            have Hs : Hid (¬ SameV (joinV (L3 xto) xs) (L3 xto)) := fun q => absurd (Hr.out.2 q) (by simp)
            clear Hr
            go_simp
            refine hK _ _ HT7 ?_; clear hK K
            (refine J00 rfl (by kernel_rfl) (fun K hK => ?_); go_simp; refine hK _ _ ?_; clear hK K)
            refine J04 ?_;clear t0 t1 t2 t3 hneT HT0 HT7;have v0 := HM7.out.cell (HM6.out.cell d0);have v1 := HM7.out.cell (HM6.out.cell d1);have v2 : w7.cell? ⟨bx, 0, none⟩ = some (.bool true) := (HB6.out.more HM7.out).cell rfl;have v3 : w7.cell? ⟨bx, 1, none⟩ = some (.slice (some ⟨gj, 0, none⟩) 8 cj) := (HB6.out.more HM7.out).cell rfl;have HR7 : Hid (Rnd w p ⟨ra, rb, ro, rc, ca, cb, co, cc⟩ (w.heap.size + 1) L3 w7 /\ LdAt w7 wm.heap.size (.slice (some ⟨lbk', 0, none⟩) nl lcap) ls) := ⟨HR6.out.1.step (by have := Hcl.out; omega) HM7.out, HR6.out.2.more HM7.out⟩;have v4 := HR7.out.1.v.fr (xto * 2);have v5 := HR7.out.1.v.fr (xto * 2 + 1);clear d0 d1
            have Hend : Hid (Rnd w p ⟨ra, rb, ro, rc, ca, cb, co, cc⟩ (w.heap.size + 1) (putV L3 xto (joinV (L3 xto) xs)) ((w7.setCell ⟨w.heap.size + 1, xto * 2, none⟩ (.bool true)).setCell ⟨w.heap.size + 1, xto * 2 + 1, none⟩ (.slice (some ⟨gj, 0, none⟩) 8 cj)) /\ LdAt ((w7.setCell ⟨w.heap.size + 1, xto * 2, none⟩ (.bool true)).setCell ⟨w.heap.size + 1, xto * 2 + 1, none⟩ (.slice (some ⟨gj, 0, none⟩) 8 cj)) wm.heap.size (.slice (some ⟨lbk', 0, none⟩) nl lcap) ls) := by
             have hlb : w.heap.size + 1 < wm.heap.size := (HV.out.v.at_ 0 (by have := Hcl.out; omega)).lt;have hmm := (HR7.out.1.more.setCell (a := ⟨w.heap.size + 1, xto * 2, none⟩) (by dsimp only; omega) (.bool true)).setCell (a := ⟨w.heap.size + 1, xto * 2 + 1, none⟩) (by dsimp only; omega) (.slice (some ⟨gj, 0, none⟩) 8 cj);refine ⟨⟨HR7.out.1.v.put HX.out.2.2 (HJ6.out.more HM7.out) (by have := HG6.out; omega), HR7.out.1.on.joinJ (x := (xto, xs)) HX.out.2.1 HX.out.2.2, (HR7.out.1.box.other (by omega) _ _).other (by omega) _ _, H.out.1.more hmm, hmm⟩, (HR7.out.2.other (by omega) _ _).other (by omega) _ _⟩
            have Hrk : Hid (rankV L3 p.cl < rankV (putV L3 xto (joinV (L3 xto) xs)) p.cl) := Jbh HR7.out.1.on.norm HX.out.2.2 HX.out.2.1.norm Hs.out;go_wp2;go_roundg g3
            case measure => omega
            case rel =>
             exact ⟨j + 1, true, _, by omega, by first | rfl | simp, rfl, Hend.out.1, Hend.out.2, fun h => absurd h (by simp), by have := HJ4.out.1; have := Hrk.out; omega, fun _ => .inr (by have := HJ4.out.1; have := Hrk.out; omega)⟩
          ·-- the new block, then the call
           refine J0a rfl (by kernel_rfl) (fun K hK => ?_); go_simp;refine hK _ _ ((HS.out _).2 ((More.refl _).drew.alloc _ _)) ?_; clear hK K;refine J0x 9 (by kernel_rfl) ?_;refine J0a rfl (by kernel_rfl) (fun K hK => ?_); go_simp;refine (Jco bo oa on oc gx cx (L3 xto) xs _ (HO.out.more ((More.refl _).drew.alloc _ _)) (HKX.out.more ((More.refl _).drew.alloc _ _))).mono ?_;rintro e w5 ⟨gj, cj, rfl, hgj, hjr, m5⟩;have M5 : Hid (More wr3 w5) := ((More.refl _).drew.alloc _ _).trans m5;have HJ5 : Hid (KRow w5 gj (joinV (L3 xto) xs) /\ wr3.heap.size < gj) := ⟨hjr, by have : (wr3.alloc (.cells #[.bool false, .slice none 0 0] 50)).heap.size <= gj := hgj; simp at this; omega⟩;have HB5 : Hid (Blk w5 wr3.heap.size #[.bool false, .slice none 0 0] 50) := (Blk.last wr3.drew _ _).more m5;clear m5 hjr hgj
           go_simp
           refine hK _ _ ((HS.out _).2 M5.out) ?_; clear hK K;refine J0x 11 (by kernel_rfl) ?_;have y0 := HB5.out.cell (j := 0) (v := .bool false) rfl;have y1 := HB5.out.cell (j := 1) (v := .slice none 0 0) rfl;have y2 := HB5.out.frozen 0;have y3 := HB5.out.frozen 1;refine J0a rfl (by kernel_rfl) (fun K hK => ?_); go_simp;obtain ⟨w6, Hw6⟩ : ∃ w6 : World, Hid (w6 = (w5.setCell ⟨wr3.heap.size, 0, none⟩ (.bool true)).setCell ⟨wr3.heap.size, 1, none⟩ (.slice (some ⟨gj, 0, none⟩) 8 cj)) := ⟨_, rfl⟩;have HM6 : Hid (More wr3 w6) := Hw6.out ▸ (M5.out.setCell (Nat.le_refl _) _).setCell (Nat.le_refl _) _;obtain ⟨bx, Hbx⟩ : ∃ bx, Hid (bx = wr3.heap.size) := ⟨_, rfl⟩
           have HB6 : Hid (Blk w6 bx #[.bool true, .slice (some ⟨gj, 0, none⟩) 8 cj] 50) := by
            show Blk _ _ _ _;rw [Hw6.out, Hbx.out];have h1 := HB5.out;unfold Blk at h1 |-;simp [World.setCell, Array.getElem?_modify, h1]
           have HJ6 : Hid (KRow w6 gj (joinV (L3 xto) xs)) := Hw6.out ▸ (HJ5.out.1.other (by have := HJ5.out.2; omega) _ _).other (by have := HJ5.out.2; omega) _ _;have HG6 : Hid (w.heap.size + 1 < gj) := by show _ < _; have := HJ5.out.2; have := (HJ1.out.v.at_ 0 (by have := Hcl.out; omega)).lt; omega
           rw [<- Hw6.out];simp only [<- Hbx.out];clear y0 y1 y2 y3;refine hK _ _ ((HS.out _).2 HM6.out) ?_; clear hK K;refine J3y (by kernel_rfl) ?_;clear k0 k1 k2 k3 k4 k5 hne HS0;have HR6 : Hid (Rnd w p ⟨ra, rb, ro, rc, ca, cb, co, cc⟩ (w.heap.size + 1) L3 w6 /\ LdAt w6 wm.heap.size (.slice (some ⟨lbk', 0, none⟩) nl lcap) ls) := ⟨HJ1.out.step (by have := Hcl.out; omega) HM6.out, HJ2.out.more HM6.out⟩;have HO6 : Hid (OAt w6 bo oa on oc (L3 xto)) := HO.out.more HM6.out;obtain ⟨T, HT⟩ : ∃ T : World -> Prop, Hid (∀ w', T w' ↔ More w6 w') := ⟨_, fun _ => Iff.rfl⟩;have HT0 : T w6.drew := (HT.out _).2 (More.refl _).drew;have hneT : Nonempty { w' // T w' } := ⟨⟨_, HT0⟩⟩;have t0 : ∀ i : { w' // T w' }, i.val.cell? ⟨bx, 0, none⟩ = some (.bool true) := fun i => (HB6.out.more ((HT.out _).1 i.property)).cell rfl
           have t1 : ∀ i : { w' // T w' }, i.val.cell? ⟨bx, 1, none⟩ = some (.slice (some ⟨gj, 0, none⟩) 8 cj) := fun i => (HB6.out.more ((HT.out _).1 i.property)).cell rfl
           have t2 : ∀ i : { w' // T w' }, i.val.cell? ⟨w.heap.size + 1, xto * 2, none⟩ = some (.bool bo) := fun i => (HM6.out.trans ((HT.out _).1 i.property)).cell d0
           have t3 : ∀ i : { w' // T w' }, i.val.cell? ⟨w.heap.size + 1, xto * 2 + 1, none⟩ = some (.slice oa on oc) := fun i => (HM6.out.trans ((HT.out _).1 i.property)).cell d1
           go_wp2_with (fail)
           refine J03 (S := T) [(0, true), (1, true), (2, true), (3, true), (4, true), (5, false), (6, true)] (by kernel_rfl) (by kernel_rfl) (by kernel_rfl) HT0 ?_
           iterate 5 (refine J00 rfl (by kernel_rfl) (fun K hK => ?_); go_simp; refine hK _ _ ?_; clear hK K)
           refine J02 rfl (by kernel_rfl) (fun K hK => ?_); go_simp;refine (Jcx bo oa on oc gj cj (L3 xto) (joinV (L3 xto) xs) _ (HO6.out.more (More.refl _).drew) (HJ6.out.more (More.refl _).drew)).mono ?_;rintro e w7 ⟨r, rfl, hr, m7⟩;have HM7 : Hid (More w6 w7) := (More.refl _).drew.trans m7;have HT7 : T w7 := (HT.out _).2 HM7.out;have Hr : Hid (r = true ↔ SameV (joinV (L3 xto) xs) (L3 xto)) := hr;clear hr m7;cases r with
           | true =>
            have Hs : Hid (SameV (joinV (L3 xto) xs) (L3 xto)) := Hr.out.1 rfl;clear Hr
            go_simp
            refine hK _ _ HT7 ?_; clear hK K
            (refine J00 rfl (by kernel_rfl) (fun K hK => ?_); go_simp; refine hK _ _ ?_; clear hK K)
            refine J04 ?_;clear t0 t1 t2 t3 hneT HT0 HT7 d0 d1;go_wp2;go_roundg g3
            case measure => omega
            case rel =>
             refine ⟨j + 1, b3, L3, by omega, by first | rfl | simp, rfl, HR6.out.1.step (by have := Hcl.out; omega) HM7.out, HR6.out.2.more HM7.out, fun h => ?_, HJ4.out.1, HJ4.out.2⟩;obtain ⟨q1, q2, q3⟩ := HJ3.out h;refine ⟨q1, q2, fun i hi y hy hyc => ?_⟩;by_cases q : i = j
             ·subst q
              rw [HX.out.1] at hy;cases hy
              rw [<- q2];exact J3v Hs.out
             ·exact q3 i (by omega) y hy hyc
           | false =>
            have Hs : Hid (¬ SameV (joinV (L3 xto) xs) (L3 xto)) := fun q => absurd (Hr.out.2 q) (by simp)
            clear Hr
            go_simp
            refine hK _ _ HT7 ?_; clear hK K
            (refine J00 rfl (by kernel_rfl) (fun K hK => ?_); go_simp; refine hK _ _ ?_; clear hK K)
            refine J04 ?_;clear t0 t1 t2 t3 hneT HT0 HT7;have v0 := HM7.out.cell (HM6.out.cell d0);have v1 := HM7.out.cell (HM6.out.cell d1);have v2 : w7.cell? ⟨bx, 0, none⟩ = some (.bool true) := (HB6.out.more HM7.out).cell rfl;have v3 : w7.cell? ⟨bx, 1, none⟩ = some (.slice (some ⟨gj, 0, none⟩) 8 cj) := (HB6.out.more HM7.out).cell rfl;have HR7 : Hid (Rnd w p ⟨ra, rb, ro, rc, ca, cb, co, cc⟩ (w.heap.size + 1) L3 w7 /\ LdAt w7 wm.heap.size (.slice (some ⟨lbk', 0, none⟩) nl lcap) ls) := ⟨HR6.out.1.step (by have := Hcl.out; omega) HM7.out, HR6.out.2.more HM7.out⟩;have v4 := HR7.out.1.v.fr (xto * 2);have v5 := HR7.out.1.v.fr (xto * 2 + 1);clear d0 d1
            have Hend : Hid (Rnd w p ⟨ra, rb, ro, rc, ca, cb, co, cc⟩ (w.heap.size + 1) (putV L3 xto (joinV (L3 xto) xs)) ((w7.setCell ⟨w.heap.size + 1, xto * 2, none⟩ (.bool true)).setCell ⟨w.heap.size + 1, xto * 2 + 1, none⟩ (.slice (some ⟨gj, 0, none⟩) 8 cj)) /\ LdAt ((w7.setCell ⟨w.heap.size + 1, xto * 2, none⟩ (.bool true)).setCell ⟨w.heap.size + 1, xto * 2 + 1, none⟩ (.slice (some ⟨gj, 0, none⟩) 8 cj)) wm.heap.size (.slice (some ⟨lbk', 0, none⟩) nl lcap) ls) := by
             have hlb : w.heap.size + 1 < wm.heap.size := (HV.out.v.at_ 0 (by have := Hcl.out; omega)).lt;have hmm := (HR7.out.1.more.setCell (a := ⟨w.heap.size + 1, xto * 2, none⟩) (by dsimp only; omega) (.bool true)).setCell (a := ⟨w.heap.size + 1, xto * 2 + 1, none⟩) (by dsimp only; omega) (.slice (some ⟨gj, 0, none⟩) 8 cj);refine ⟨⟨HR7.out.1.v.put HX.out.2.2 (HJ6.out.more HM7.out) (by have := HG6.out; omega), HR7.out.1.on.joinJ (x := (xto, xs)) HX.out.2.1 HX.out.2.2, (HR7.out.1.box.other (by omega) _ _).other (by omega) _ _, H.out.1.more hmm, hmm⟩, (HR7.out.2.other (by omega) _ _).other (by omega) _ _⟩
            have Hrk : Hid (rankV L3 p.cl < rankV (putV L3 xto (joinV (L3 xto) xs)) p.cl) := Jbh HR7.out.1.on.norm HX.out.2.2 HX.out.2.1.norm Hs.out;go_wp2;go_roundg g3
            case measure => omega
            case rel =>
             exact ⟨j + 1, true, _, by omega, by first | rfl | simp, rfl, Hend.out.1, Hend.out.2, fun h => absurd h (by simp), by have := HJ4.out.1; have := Hrk.out; omega, fun _ => .inr (by have := HJ4.out.1; have := Hrk.out; omega)⟩
theorem Jir (ra : Option Addr) (rl rc : Nat) (cv : Value) (g c : Nat) (a b ic n : Int) (w : World) (zg : g < w.heap.size) (xb : Bool) (b0 : 0 <= b) (b1 : b < 8) (kb : w.cell? ⟨g, b.toNat * 2 + 1, none⟩ = some (.bool xb)) (hcv : ∃ x y z, cv = .slice x y z) :
  Calls Tryz.prog 15 #[.agg #[.slice ra rl rc, cv], .agg #[V 3, V a, V b, V ic, V n], .slice (some ⟨g, 0, none⟩) 8 c] w fun e w' => e = .returned (.bool (xb)) /\ More w w' := by
 obtain ⟨cx, cy, cz, rfl⟩ := hcv;have zg1 : g < w.heap.size + 1 := by omega
 cases xb
 all_goals
  go_enter Tryz.func15, Tryz.ntmps15;go_wp2;go_ret;exact ⟨rfl, ((More.refl _).alloc _ _).alloc _ _⟩

theorem Jis (ra : Option Addr) (rl rc : Nat) (cv : Value) (g c : Nat) (a b ic n : Int) (w : World) (zg : g < w.heap.size) (xa xb xr : Bool) (a0 : 0 <= a) (a1 : a < 8) (ka : w.cell? ⟨g, a.toNat * 2 + 1, none⟩ = some (.bool xa)) (b0 : 0 <= b) (b1 : b < 8) (kb : w.cell? ⟨g, b.toNat * 2 + 1, none⟩ = some (.bool xb)) (rb ro : Nat) (hra : ra = some ⟨rb, ro, none⟩) (zr : rb < w.heap.size) (c0 : 0 <= ic) (c1 : ic < rl) (kr : w.cell? ⟨rb, ro + ic.toNat * 2 + 1, none⟩ = some (.bool xr)) (hcv : ∃ x y z, cv = .slice x y z) :
  Calls Tryz.prog 15 #[.agg #[.slice ra rl rc, cv], .agg #[V 4, V a, V b, V ic, V n], .slice (some ⟨g, 0, none⟩) 8 c] w fun e w' => e = .returned (.bool (xb || (xa && !xr))) /\ More w w' := by
 obtain ⟨cx, cy, cz, rfl⟩ := hcv;have zg1 : g < w.heap.size + 1 := by omega
 subst hra;have zr1 : rb < w.heap.size + 1 := by omega
 cases xb <;> cases xa <;> cases xr
 all_goals
  go_enter Tryz.func15, Tryz.ntmps15;go_wp2;go_ret;exact ⟨rfl, ((More.refl _).alloc _ _).alloc _ _⟩

theorem Jit (ra : Option Addr) (rl rc : Nat) (cv : Value) (g c : Nat) (a b ic n : Int) (w : World) (zg : g < w.heap.size) (xa xr : Bool) (a0 : 0 <= a) (a1 : a < 8) (ka : w.cell? ⟨g, a.toNat * 2 + 1, none⟩ = some (.bool xa)) (rb ro : Nat) (hra : ra = some ⟨rb, ro, none⟩) (zr : rb < w.heap.size) (c0 : 0 <= ic) (c1 : ic < rl) (kr : w.cell? ⟨rb, ro + ic.toNat * 2 + 1, none⟩ = some (.bool xr)) (hcv : ∃ x y z, cv = .slice x y z) :
  Calls Tryz.prog 15 #[.agg #[.slice ra rl rc, cv], .agg #[V 6, V a, V b, V ic, V n], .slice (some ⟨g, 0, none⟩) 8 c] w fun e w' => e = .returned (.bool (xa && !xr)) /\ More w w' := by
 obtain ⟨cx, cy, cz, rfl⟩ := hcv;have zg1 : g < w.heap.size + 1 := by omega
 subst hra;have zr1 : rb < w.heap.size + 1 := by omega
 cases xa <;> cases xr
 all_goals
  go_enter Tryz.func15, Tryz.ntmps15;go_wp2;go_ret;exact ⟨rfl, ((More.refl _).alloc _ _).alloc _ _⟩

theorem Jiu (ra : Option Addr) (rl rc : Nat) (cv : Value) (g c : Nat) (a b ic n : Int) (w : World) (zg : g < w.heap.size) (xa xb : Bool) (a0 : 0 <= a) (a1 : a < 8) (ka : w.cell? ⟨g, a.toNat * 2 + 1, none⟩ = some (.bool xa)) (b0 : 0 <= b) (b1 : b < 8) (kb : w.cell? ⟨g, b.toNat * 2 + 1, none⟩ = some (.bool xb)) (hcv : ∃ x y z, cv = .slice x y z) :
  Calls Tryz.prog 15 #[.agg #[.slice ra rl rc, cv], .agg #[V 8, V a, V b, V ic, V n], .slice (some ⟨g, 0, none⟩) 8 c] w fun e w' => e = .returned (.bool (xa || xb)) /\ More w w' := by
 obtain ⟨cx, cy, cz, rfl⟩ := hcv;have zg1 : g < w.heap.size + 1 := by omega
 cases xa <;> cases xb
 all_goals
  go_enter Tryz.func15, Tryz.ntmps15;go_wp2;go_ret;exact ⟨rfl, ((More.refl _).alloc _ _).alloc _ _⟩

theorem Jfu (ra : Option Addr) (rl rc : Nat) (cv : Value) (g c : Nat) (a b ic n : Int) (w : World) (zg : g < w.heap.size) (xb xc : Bool) (b0 : 0 <= b) (b1 : b < 8) (kb : w.cell? ⟨g, b.toNat * 2 + 1, none⟩ = some (.bool xb)) (c0 : 0 <= ic) (c1 : ic < 8) (kc : w.cell? ⟨g, ic.toNat * 2 + 1, none⟩ = some (.bool xc)) (hcv : ∃ x y z, cv = .slice x y z) :
  Calls Tryz.prog 15 #[.agg #[.slice ra rl rc, cv], .agg #[V 29, V a, V b, V ic, V n], .slice (some ⟨g, 0, none⟩) 8 c] w fun e w' => e = .returned (.bool (xb || xc)) /\ More w w' := by
 obtain ⟨cx, cy, cz, rfl⟩ := hcv;have zg1 : g < w.heap.size + 1 := by omega
 cases xb <;> cases xc
 all_goals
  go_enter Tryz.func15, Tryz.ntmps15;go_wp2;go_ret;exact ⟨rfl, ((More.refl _).alloc _ _).alloc _ _⟩

theorem Jfv (ra : Option Addr) (rl rc : Nat) (cv : Value) (g c : Nat) (a b ic n : Int) (w : World) (zg : g < w.heap.size) (xb xc : Bool) (b0 : 0 <= b) (b1 : b < 8) (kb : w.cell? ⟨g, b.toNat * 2 + 1, none⟩ = some (.bool xb)) (c0 : 0 <= ic) (c1 : ic < 8) (kc : w.cell? ⟨g, ic.toNat * 2 + 1, none⟩ = some (.bool xc)) (hcv : ∃ x y z, cv = .slice x y z) :
  Calls Tryz.prog 15 #[.agg #[.slice ra rl rc, cv], .agg #[V 30, V a, V b, V ic, V n], .slice (some ⟨g, 0, none⟩) 8 c] w fun e w' => e = .returned (.bool (xb || xc)) /\ More w w' := by
 obtain ⟨cx, cy, cz, rfl⟩ := hcv;have zg1 : g < w.heap.size + 1 := by omega
 cases xb <;> cases xc
 all_goals
  go_enter Tryz.func15, Tryz.ntmps15;go_wp2;go_ret;exact ⟨rfl, ((More.refl _).alloc _ _).alloc _ _⟩

theorem Jiv (ra : Option Addr) (rl rc : Nat) (cv : Value) (g c : Nat) (a b ic n : Int) (w : World) (zg : g < w.heap.size) (xa : Bool) (a0 : 0 <= a) (a1 : a < 8) (ka : w.cell? ⟨g, a.toNat * 2 + 1, none⟩ = some (.bool xa)) (hcv : ∃ x y z, cv = .slice x y z) :
  Calls Tryz.prog 15 #[.agg #[.slice ra rl rc, cv], .agg #[V 9, V a, V b, V ic, V n], .slice (some ⟨g, 0, none⟩) 8 c] w fun e w' => e = .returned (.bool (xa)) /\ More w w' := by
 obtain ⟨cx, cy, cz, rfl⟩ := hcv;have zg1 : g < w.heap.size + 1 := by omega
 cases xa
 all_goals
  go_enter Tryz.func15, Tryz.ntmps15;go_wp2;go_ret;exact ⟨rfl, ((More.refl _).alloc _ _).alloc _ _⟩

theorem Ja4 (ra : Option Addr) (rl rc : Nat) (cv : Value) (g c : Nat) (op a b ic n : Int) (w : World) (zg : g < w.heap.size) (h3 : ¬ op = 3) (h4 : ¬ op = 4) (h6 : ¬ op = 6) (h8 : ¬ op = 8) (h29 : ¬ op = 29) (h30 : ¬ op = 30) (h9 : ¬ op = 9) (hcv : ∃ x y z, cv = .slice x y z) :
  Calls Tryz.prog 15 #[.agg #[.slice ra rl rc, cv], .agg #[V op, V a, V b, V ic, V n], .slice (some ⟨g, 0, none⟩) 8 c] w fun e w' => e = .returned (.bool (false)) /\ More w w' := by
 obtain ⟨cx, cy, cz, rfl⟩ := hcv;have zg1 : g < w.heap.size + 1 := by omega
 have e3 : (op == 3) = false := by simp [h3]
 have e4 : (op == 4) = false := by simp [h4]
 have e6 : (op == 6) = false := by simp [h6]
 have e8 : (op == 8) = false := by simp [h8]
 have e29 : (op == 29) = false := by simp [h29]
 have e30 : (op == 30) = false := by simp [h30]
 have e9 : (op == 9) = false := by simp [h9]
 clear h3 h4 h6 h8 h29 h30 h9
 all_goals
  go_enter Tryz.func15, Tryz.ntmps15;go_wp2;go_ret;exact ⟨rfl, ((More.refl _).alloc _ _).alloc _ _⟩

theorem Ja3 (p : Prg) (lo : Loc) (at_ g c : Nat) (s : KS) (w : World) (hp : PIn w p lo) (hi : InsOk p.rl p.log p.cl 8 (p.ins at_)) (hk : KRow w g s) :
  Calls Tryz.prog 15 #[.agg #[.slice lo.ra p.rl lo.rc, .slice lo.ca p.cl lo.cc], .agg #[V (p.ins at_).op, V (p.ins at_).a, V (p.ins at_).b, V (p.ins at_).c, V (p.ins at_).n], .slice (some ⟨g, 0, none⟩) 8 c] w
   fun e w' => e = .returned (.bool (J0g p (p.ins at_) s)) /\ More w w' := by
 have zg := hk.lt;have hI := hi;unfold InsOk Reg Rgn at hI;have reg : ∀ v : Int, 0 <= v -> v < 8 -> w.cell? ⟨g, v.toNat * 2 + 1, none⟩ = some (.bool (s v.toNat).s) := fun v h0 h1 => (hk v.toNat (by omega)).1.2
 have rgn : ∀ v : Int, 0 <= v -> v < p.rl -> lo.ra = some ⟨lo.rb, lo.ro, none⟩ /\ lo.rb < w.heap.size /\ w.cell? ⟨lo.rb, lo.ro + v.toNat * 2 + 1, none⟩ = some (.bool (p.sec v.toNat)) := fun v h0 h1 =>
  ⟨hp.hr (by omega), J06 (hp.regs v.toNat (by omega)).1, (hp.regs v.toNat (by omega)).2⟩
 by_cases h3 : (p.ins at_).op = 3
 ·simp [h3] at hI
  have e0 : J0g p (p.ins at_) s = (s (p.ins at_).b.toNat).s := by unfold J0g; simp [h3]
  rw [e0, h3];exact Jir lo.ra p.rl lo.rc (.slice lo.ca p.cl lo.cc) g c (p.ins at_).a (p.ins at_).b (p.ins at_).c (p.ins at_).n w zg _ (by omega) (by omega) (reg (p.ins at_).b (by omega) (by omega)) ⟨_, _, _, rfl⟩
 by_cases h4 : (p.ins at_).op = 4
 ·simp [h4] at hI
  have e0 : J0g p (p.ins at_) s = ((s (p.ins at_).b.toNat).s || ((s (p.ins at_).a.toNat).s && !p.sec (p.ins at_).c.toNat)) := by unfold J0g; simp [h4]
  rw [e0, h4];exact Jis lo.ra p.rl lo.rc (.slice lo.ca p.cl lo.cc) g c (p.ins at_).a (p.ins at_).b (p.ins at_).c (p.ins at_).n w zg _ _ _ (by omega) (by omega) (reg (p.ins at_).a (by omega) (by omega)) (by omega) (by omega) (reg (p.ins at_).b (by omega) (by omega)) lo.rb lo.ro (rgn (p.ins at_).c (by omega) (by omega)).1 (rgn (p.ins at_).c (by omega) (by omega)).2.1 (by omega) (by omega) (rgn (p.ins at_).c (by omega) (by omega)).2.2 ⟨_, _, _, rfl⟩
 by_cases h6 : (p.ins at_).op = 6
 ·simp [h6] at hI
  have e0 : J0g p (p.ins at_) s = ((s (p.ins at_).a.toNat).s && !p.sec (p.ins at_).c.toNat) := by unfold J0g; simp [h6]
  rw [e0, h6];exact Jit lo.ra p.rl lo.rc (.slice lo.ca p.cl lo.cc) g c (p.ins at_).a (p.ins at_).b (p.ins at_).c (p.ins at_).n w zg _ _ (by omega) (by omega) (reg (p.ins at_).a (by omega) (by omega)) lo.rb lo.ro (rgn (p.ins at_).c (by omega) (by omega)).1 (rgn (p.ins at_).c (by omega) (by omega)).2.1 (by omega) (by omega) (rgn (p.ins at_).c (by omega) (by omega)).2.2 ⟨_, _, _, rfl⟩
 by_cases h8 : (p.ins at_).op = 8
 ·simp [h8] at hI
  have e0 : J0g p (p.ins at_) s = ((s (p.ins at_).a.toNat).s || (s (p.ins at_).b.toNat).s) := by unfold J0g; simp [h8]
  rw [e0, h8];exact Jiu lo.ra p.rl lo.rc (.slice lo.ca p.cl lo.cc) g c (p.ins at_).a (p.ins at_).b (p.ins at_).c (p.ins at_).n w zg _ _ (by omega) (by omega) (reg (p.ins at_).a (by omega) (by omega)) (by omega) (by omega) (reg (p.ins at_).b (by omega) (by omega)) ⟨_, _, _, rfl⟩
 by_cases h29 : (p.ins at_).op = 29
 ·simp [h29] at hI
  have e0 : J0g p (p.ins at_) s = ((s (p.ins at_).b.toNat).s || (s (p.ins at_).c.toNat).s) := by unfold J0g; simp [h29]
  rw [e0, h29];exact Jfu lo.ra p.rl lo.rc (.slice lo.ca p.cl lo.cc) g c (p.ins at_).a (p.ins at_).b (p.ins at_).c (p.ins at_).n w zg _ _ (by omega) (by omega) (reg (p.ins at_).b (by omega) (by omega)) (by omega) (by omega) (reg (p.ins at_).c (by omega) (by omega)) ⟨_, _, _, rfl⟩
 by_cases h30 : (p.ins at_).op = 30
 ·simp [h30] at hI
  have e0 : J0g p (p.ins at_) s = ((s (p.ins at_).b.toNat).s || (s (p.ins at_).c.toNat).s) := by unfold J0g; simp [h30]
  rw [e0, h30];exact Jfv lo.ra p.rl lo.rc (.slice lo.ca p.cl lo.cc) g c (p.ins at_).a (p.ins at_).b (p.ins at_).c (p.ins at_).n w zg _ _ (by omega) (by omega) (reg (p.ins at_).b (by omega) (by omega)) (by omega) (by omega) (reg (p.ins at_).c (by omega) (by omega)) ⟨_, _, _, rfl⟩
 by_cases h9 : (p.ins at_).op = 9
 ·simp [h9] at hI
  have e0 : J0g p (p.ins at_) s = (s (p.ins at_).a.toNat).s := by unfold J0g; simp [h9]
  rw [e0, h9];exact Jiv lo.ra p.rl lo.rc (.slice lo.ca p.cl lo.cc) g c (p.ins at_).a (p.ins at_).b (p.ins at_).c (p.ins at_).n w zg _ (by omega) (by omega) (reg (p.ins at_).a (by omega) (by omega)) ⟨_, _, _, rfl⟩
 ·have e0 : J0g p (p.ins at_) s = false := by unfold J0g; simp [h3, h4, h6, h8, h29, h30, h9]
  rw [e0];exact Ja4 lo.ra p.rl lo.rc (.slice lo.ca p.cl lo.cc) g c (p.ins at_).op (p.ins at_).a (p.ins at_).b (p.ins at_).c (p.ins at_).n w zg h3 h4 h6 h8 h29 h30 h9 ⟨_, _, _, rfl⟩
theorem Jlc {p : Prg} {at_ : Nat} (hi : InsOk p.rl p.log p.cl 8 (p.ins at_)) (s : KS) : (∃ (i : Nat) (x : Nat × KS), (J0f p at_ s)[i]? = some x /\ p.cl <= x.1) ↔ outK p at_ = true := by
 unfold outK;have hI := hi;unfold InsOk Plc at hI;constructor
 ·rintro ⟨i, x, hx, hc⟩
  have hm := List.mem_of_getElem? hx;unfold J0f at hm;by_cases h7 : (p.ins at_).op = 7
  ·rw [if_pos h7] at hm
   simp [h7] at hI;simp at hm; subst hm; dsimp only at hc; omega
  rw [if_neg h7] at hm;by_cases h9 : (p.ins at_).op = 9
  ·rw [if_pos h9] at hm; simp at hm
  rw [if_neg h9] at hm;by_cases h8 : (p.ins at_).op = 8
  ·rw [if_pos h8] at hm
   simp [h8] at hI;simp at hm;rcases hm with rfl | rfl
   ·dsimp only at hc; omega
   ·simp [h7, h9]; exact hc
  ·rw [if_neg h8] at hm
   simp at hm; subst hm;simp [h7, h9]; exact hc
 ·intro h
  simp at h;obtain ⟨h7, h9, hc⟩ := h;unfold J0f;rw [if_neg h7, if_neg h9];by_cases h8 : (p.ins at_).op = 8
  ·rw [if_pos h8]; exact ⟨1, _, rfl, hc⟩
  ·rw [if_neg h8]; exact ⟨0, _, rfl, hc⟩

abbrev flt (c a : Int) : Value := .agg #[V c, V a]

theorem Jam (rv cv : Value) (hrv : ∃ a n c, rv = .slice a n c) (hcv : ∃ a n c, cv = .slice a n c) (w : World) (cm : ∀ w1 : World, More w w1 -> Calls Tryz.prog 11 #[.agg #[rv, cv]] w1 fun e w' => e = .returned (.bool false) /\ More w1 w') :
  Calls Tryz.prog 4 #[.agg #[rv, cv]] w fun e w' => e = .returned (flt 2 0) /\ More w w' := by
 obtain ⟨a, n, c, rfl⟩ := hrv;obtain ⟨a2, n2, c2, rfl⟩ := hcv;unfold flt;go_enter Tryz.func4, Tryz.ntmps4;go_wp2_with (fail)
 refine (cm _ (((More.refl _).alloc _ _).alloc _ _)).mono ?_;rintro e w1 ⟨rfl, m1⟩;have Hres : Hid (Blk w1 (w.heap.size + 1) #[V 0, V 0] 30) := (by simpa using Blk.last (w.alloc (.cells #[.slice a n c, .slice a2 n2 c2] 25)) #[V 0, V 0] 30 : Blk ((w.alloc (.cells #[.slice a n c, .slice a2 n2 c2] 25)).alloc (.cells #[V 0, V 0] 30)) (w.heap.size + 1) #[V 0, V 0] 30).more m1;have Hm1 : Hid (More w w1) := (((More.refl _).alloc _ _).alloc _ _).trans m1;clear m1;have t0 := Hres.out.cell (j := 0) (v := V 0) rfl;have t1 := Hres.out.cell (j := 1) (v := V 0) rfl;have u0 := Hres.out.frozen 0;have u1 := Hres.out.frozen 1;go_wp2;exact bodyPost_ret (by simp [results, Tryz.results4, go_sem, *]) rfl ⟨rfl, (Hm1.out.setCell (by dsimp only; omega) _).setCell (by dsimp only; omega) _⟩

theorem Je9 (p : Prg) (lo : Loc) (w : World) (hp : PIn w p lo) (hok : p.Ok 200 8) (hn : ∀ i, i < p.cl -> -9223372036854775808 <= (p.ins i).n /\ (p.ins i).n <= 9223372036854775807)
  (cm : ∀ w1 : World, More w w1 -> Calls Tryz.prog 11 #[.agg #[.slice lo.ra p.rl lo.rc, .slice lo.ca p.cl lo.cc]] w1 fun e w' => e = .returned (.bool true) /\ More w1 w') :
  Calls Tryz.prog 4 #[.agg #[.slice lo.ra p.rl lo.rc, .slice lo.ca p.cl lo.cc]] w fun e w' => ∃ l, Known p l /\ e = .returned (flt (J09 p l).1 (J09 p l).2) /\ More w w' := by
 suffices hP : ∀ P : Ending -> World -> Prop, (∀ l, Known p l -> ∀ w', More w w' -> P (.returned (flt (J09 p l).1 (J09 p l).2)) w') -> Calls Tryz.prog 4 #[.agg #[.slice lo.ra p.rl lo.rc, .slice lo.ca p.cl lo.cc]] w P from hP _ (fun l h1 w' h2 => ⟨l, h1, rfl, h2⟩)
 intro P hP0;have HP : Hid (∀ l, Known p l -> ∀ w', More w w' -> P (.returned (flt (J09 p l).1 (J09 p l).2)) w') := hP0;have H : Hid (PIn w p lo /\ p.Ok 200 8 /\ ∀ i, i < p.cl -> -9223372036854775808 <= (p.ins i).n /\ (p.ins i).n <= 9223372036854775807) := ⟨hp, hok, hn⟩;have h1 : 1 <= p.cl := hok.2.1;have h2 : p.cl <= 200 := hok.2.2.1;have hi1 : (1 : Int) <= p.cl := by omega
 have hi2 : (p.cl : Int) <= 200 := by omega
 clear hP0 hp hok hn;have HS0 : Hid (∀ w1 : World, More w w1 -> Calls Tryz.prog 12 #[.agg #[.slice lo.ra p.rl lo.rc, .slice lo.ca p.cl lo.cc]] w1 fun e w' => ∃ lb l, e = .returned (.slice (some ⟨lb, 0, none⟩) p.cl p.cl) /\ VAt w' lb p.cl l /\ Known p l /\ More w1 w') := fun w1 m => Jaf p lo w1 (H.out.1.more m) H.out.2.1 H.out.2.2
 obtain ⟨cl, hcl⟩ : ∃ cl, p.cl = cl := ⟨_, rfl⟩;have Hcl : Hid (p.cl = cl) := hcl;rw [hcl] at h1 h2 hi1 hi2 cm |-
 have HSt : Hid (∀ w1 : World, More w w1 -> Calls Tryz.prog 12 #[.agg #[.slice lo.ra p.rl lo.rc, .slice lo.ca cl lo.cc]] w1 fun e w' => ∃ lb l, e = .returned (.slice (some ⟨lb, 0, none⟩) cl cl) /\ VAt w' lb p.cl l /\ Known p l /\ More w1 w') := by
  have := HS0.out;rw [hcl] at this;rw [hcl]; exact this
 have Hcm : Hid (∀ w1 : World, More w w1 -> Calls Tryz.prog 11 #[.agg #[.slice lo.ra p.rl lo.rc, .slice lo.ca cl lo.cc]] w1 fun e w' => e = .returned (.bool true) /\ More w1 w') := cm;clear hcl HS0 cm;obtain ⟨ra, rb, ro, rc, ca, cb, co, cc⟩ := lo;dsimp only at HSt Hcm |-;obtain rfl : ca = some ⟨cb, co, none⟩ := H.out.1.hc (by have := Hcl.out; omega);obtain ⟨W0, HW0⟩ : ∃ W0 : World, Hid (W0 = (w.alloc (.cells #[.slice ra p.rl rc, .slice (some ⟨cb, co, none⟩) cl cc] 25)).alloc (.cells #[V 0, V 0] 30)) := ⟨_, rfl⟩;have HM0 : Hid (More w W0) := HW0.out ▸ ((More.refl _).alloc _ _).alloc _ _;have HBX : Hid (Blk W0 w.heap.size #[.slice ra p.rl rc, .slice (some ⟨cb, co, none⟩) cl cc] 25) := HW0.out ▸ (Blk.last _ _ _).more ((More.refl _).alloc _ _)
 have HRES : Hid (Blk W0 (w.heap.size + 1) #[V 0, V 0] 30) := by
  show Blk _ _ _ _;rw [HW0.out];simpa using Blk.last (w.alloc (.cells #[.slice ra p.rl rc, .slice (some ⟨cb, co, none⟩) cl cc] 25)) #[V 0, V 0] 30
 go_enter Tryz.func4, Tryz.ntmps4;go_wp2_with (fail)
 rw [<- HW0.out];refine (Hcm.out _ HM0.out).mono ?_;rintro e w1 ⟨rfl, m1⟩;have HM1 : Hid (More W0 w1) := m1;clear m1;have p0 : w1.cell? ⟨w.heap.size, 0, none⟩ = some (.slice ra p.rl rc) := (HBX.out.more HM1.out).cell rfl;have p1 : w1.cell? ⟨w.heap.size, 1, none⟩ = some (.slice (some ⟨cb, co, none⟩) cl cc) := (HBX.out.more HM1.out).cell rfl;go_wp2_with (fail)
 refine (HSt.out _ (HM0.out.trans HM1.out)).mono ?_;rintro e w2 ⟨lb, L, rfl, hv, hkn, m2⟩;have HV2 : Hid (VAt w2 lb p.cl L /\ Known p L) := ⟨hv, hkn⟩;have HM2 : Hid (More W0 w2) := HM1.out.trans m2;clear m2 hv hkn p0 p1;go_wp2_with (fail)
 go_loopg [4] cl (fun g iv wr => ∃ k : Nat, k + g = cl /\ iv = V k /\ Hid (More w2 wr /\ J09 p L = scanK p L g k))
 case atStart => exact ⟨0, by omega, rfl, More.refl _, by unfold J09; rw [Hcl.out]⟩
 case round =>
  obtain ⟨k, hkg, rfl, HR⟩ := hrel;obtain ⟨wm, rfl⟩ : ∃ wm, wm = wr := ⟨wr, rfl⟩;have HMm : Hid (More W0 wm) := HM2.out.trans HR.out.1;have HVm : Hid (VAt wm lb p.cl L) := HV2.out.1.more HR.out.1 (by have := Hcl.out; omega);have Hsc : Hid (J09 p L = scanK p L gk k) := HR.out.2;have HMw : Hid (More w2 wm) := HR.out.1;clear HR;cases gk with
  | zero =>
   have He : Hid (J09 p L = (0, 0)) := Hsc.out;clear Hsc;have t0 := (HRES.out.more HMm.out).cell (j := 0) (v := V 0) rfl;have t1 := (HRES.out.more HMm.out).cell (j := 1) (v := V 0) rfl;have u0 := (HRES.out.more HMm.out).frozen 0;have u1 := (HRES.out.more HMm.out).frozen 1;go_wp2;refine bodyPost_ret (v := flt 0 0) (by simp [flt, results, Tryz.results4, go_sem, *]) rfl ?_;have hE := HP.out L HV2.out.2 _ (((HM0.out.trans HMm.out).setCell (a := ⟨w.heap.size + 1, 0, none⟩) (by dsimp only; omega) (V 0)).setCell (a := ⟨w.heap.size + 1, 1, none⟩) (by dsimp only; omega) (V 0));rw [He.out] at hE;exact hE
  | succ g =>
   have hk : k < cl := by omega
   have hki : (k : Int) < cl := by omega
   have hca := HVm.out.at_ k (by rw [Hcl.out]; exact hk);cases eL : L k with
   | none =>
    rw [eL] at hca;have c0 := hca.1;have Hn2 : Hid (J09 p L = scanK p L g (k + 1)) := by show _ = _; rw [Hsc.out]; simp only [scanK, eL]
    clear hca eL Hsc;go_wp2;go_roundg g
    case measure => omega
    case rel => exact ⟨k + 1, by omega, by first | rfl | simp, HMw.out, Hn2.out⟩
   | some s =>
    rw [eL] at hca;obtain ⟨gs, cs, c0, c1, hks, hgne⟩ := hca;have Hks : Hid (KRow wm gs s) := hks;have Hpk : Hid (k < p.cl) := by show _ < _; rw [Hcl.out]; exact hk
    have Hi : Hid (InsOk p.rl p.log p.cl 8 (p.ins k)) := H.out.2.1.2.2.2 k Hpk.out;have Hn2 : Hid (J09 p L = if J0p p k s = 0 then scanK p L g (k + 1) else (J0p p k s, (k : Int))) := by show _ = _; rw [Hsc.out]; simp only [scanK, eL]
    have Hout : Hid ((∃ (i : Nat) (x : Nat × KS), (J0f p k s)[i]? = some x /\ p.cl <= x.1) ↔ outK p k = true) := Jlc Hi.out s;clear eL hks hgne Hsc;have q := (H.out.1.more (HM0.out.trans HMm.out)).code k Hpk.out;obtain ⟨q0, q1, q2, q3, q4⟩ := q;obtain ⟨i, hi⟩ : ∃ i, p.ins k = i := ⟨_, rfl⟩;rw [hi] at q0 q1 q2 q3 q4;have HI : Hid (p.ins k = i) := hi;clear hi;obtain ⟨op, a, b, ic, n⟩ := i;dsimp only at q0 q1 q2 q3 q4;have p0 : wm.cell? ⟨w.heap.size, 0, none⟩ = some (.slice ra p.rl rc) := (HBX.out.more HMm.out).cell rfl;have p1 : wm.cell? ⟨w.heap.size, 1, none⟩ = some (.slice (some ⟨cb, co, none⟩) cl cc) := (HBX.out.more HMm.out).cell rfl;obtain ⟨W8, HW8⟩ : ∃ W8 : World, Hid (W8 = wm.alloc (.cells #[V op, V a, V b, V ic, V n] 42)) := ⟨_, rfl⟩;have HM8 : Hid (More wm W8) := HW8.out ▸ (More.refl _).alloc _ _;have HB8 : Hid (Blk W8 wm.heap.size #[V op, V a, V b, V ic, V n] 42) := HW8.out ▸ Blk.last _ _ _;obtain ⟨S, HS⟩ : ∃ S : World -> Prop, Hid (∀ w', S w' ↔ More W8 w') := ⟨_, fun _ => Iff.rfl⟩;have HSd : S W8.drew := (HS.out _).2 (More.refl _).drew;have hne : Nonempty { w' // S w' } := ⟨⟨_, HSd⟩⟩;have k0 : ∀ i : { w' // S w' }, i.val.cell? ⟨lb, k * 2, none⟩ = some (.bool true) := fun i => (HM8.out.trans ((HS.out _).1 i.property)).cell c0
    have k1 : ∀ i : { w' // S w' }, i.val.cell? ⟨lb, k * 2 + 1, none⟩ = some (.slice (some ⟨gs, 0, none⟩) 8 cs) := fun i => (HM8.out.trans ((HS.out _).1 i.property)).cell c1
    have k2 : ∀ i : { w' // S w' }, i.val.cell? ⟨w.heap.size, 0, none⟩ = some (.slice ra p.rl rc) := fun i => (HM8.out.trans ((HS.out _).1 i.property)).cell p0
    have k3 : ∀ i : { w' // S w' }, i.val.cell? ⟨w.heap.size, 1, none⟩ = some (.slice (some ⟨cb, co, none⟩) cl cc) := fun i => (HM8.out.trans ((HS.out _).1 i.property)).cell p1
    have Hld : Hid (∀ w1 : World, More wm w1 -> Calls Tryz.prog 13 #[.agg #[.slice ra p.rl rc, .slice (some ⟨cb, co, none⟩) cl cc], V k, st true gs cs] w1 fun e w' => ∃ v, e = .returned v /\ LdAt w' w1.heap.size v (J0f p k s) /\ More w1 w') := fun w1 m => by
     have := J6r p ⟨ra, rb, ro, rc, some ⟨cb, co, none⟩, cb, co, cc⟩ k gs cs s w1 (H.out.1.more ((HM0.out.trans HMm.out).trans m)) Hpk.out H.out.2.1.2.2.1 Hi.out (H.out.2.2 k Hpk.out).1 (H.out.2.2 k Hpk.out).2 (Hks.out.more m);dsimp only at this;rw [Hcl.out] at this;exact this
    have zb := J06 p0;have zc := J06 q0;have zl := J06 c0;dsimp only at zb zc zl;go_wp2_with (fail)
    rw [<- HW8.out];refine J03 (S := S) [(0, true), (1, true), (2, true), (3, true), (4, true), (5, true), (6, false), (7, true)] (by kernel_rfl) (by kernel_rfl) (by kernel_rfl) HSd ?_
    iterate 6 (refine J00 rfl (by kernel_rfl) (fun K hK => ?_); go_simp; refine hK _ _ ?_; clear hK K)
    refine J02 rfl (by kernel_rfl) (fun K hK => ?_); go_simp;refine (Hld.out _ (HM8.out.drew)).mono ?_;rintro e w3 ⟨lv, rfl, hlv, m3⟩;have HM3 : Hid (More W8 w3) := (More.refl _).drew.trans m3;have HS3 : S w3 := (HS.out _).2 HM3.out;obtain ⟨ls, hls⟩ : ∃ ls, J0f p k s = ls := ⟨_, rfl⟩;rw [hls] at hlv;have Hls : Hid ((∃ (i : Nat) (x : Nat × KS), ls[i]? = some x /\ p.cl <= x.1) ↔ outK p k = true) := by have := Hout.out; rw [hls] at this; exact this
    clear hls Hout;obtain ⟨la, lbk, lcap, rfl, hla, _, hl2, hcells⟩ := hlv;obtain ⟨nl, hnl⟩ : ∃ nl, ls.length = nl := ⟨_, rfl⟩;rw [hnl] at hla hl2 |-;have Hce : Hid (∀ j x, ls[j]? = some x -> w3.cell? ⟨lbk, j * 3, none⟩ = some (V (x.1 : Int))) := fun j x hx => by obtain ⟨_, _, q, _⟩ := hcells j x hx; exact q
    have Hnl : Hid (ls.length = nl /\ (0 < nl -> la = some ⟨lbk, 0, none⟩)) := ⟨hnl, hla⟩;clear m3 hnl hla hcells
    go_simp
    refine hK _ _ HS3 ?_; clear hK K
    (refine J00 rfl (by kernel_rfl) (fun K hK => ?_); go_simp; refine hK _ _ ?_; clear hK K)
    refine J04 ?_;clear k0 k1 k2 k3 hne HSd HS3 q0 q1 q2 q3 q4 zb zc zl;go_wp2_with (fail)
    go_loopg [7, 8] nl (fun g3 bv iv wr3 => ∃ (j : Nat) (bb : Bool), j + g3 = nl /\ iv = V j /\ bv = .bool bb /\ wr3 = w3 /\ Hid (bb = true ↔ ∃ (i : Nat) (x : Nat × KS), i < j /\ ls[i]? = some x /\ p.cl <= x.1))
    case atStart => exact ⟨0, false, by omega, rfl, rfl, rfl, ⟨fun h => absurd h (by simp), fun ⟨i, x, h, _⟩ => absurd h (Nat.not_lt_zero _)⟩⟩
    case round =>
     obtain ⟨j, bb, hjg, rfl, rfl, rfl, HJ⟩ := hrel;obtain ⟨w3, rfl⟩ : ∃ w3, w3 = wr := ⟨wr, rfl⟩;cases gk with
     | succ g3 =>
      have hj : j < nl := by omega
      have hji : (j : Int) < nl := by omega
      have hnli : (nl : Int) <= 2 := by omega
      obtain ⟨x, hx⟩ : ∃ x, ls[j]? = some x := ⟨ls[j]'(by rw [Hnl.out.1]; exact hj), List.getElem?_eq_getElem _⟩;obtain rfl : la = some ⟨lbk, 0, none⟩ := Hnl.out.2 (by omega);have l0 := Hce.out j x hx;have Hx : Hid (ls[j]? = some x) := hx;obtain ⟨xto, xs⟩ := x;dsimp only at l0;clear hx;obtain ⟨dd, hdd⟩ : ∃ d, decide (cl <= xto) = d := ⟨_, rfl⟩
      have Hnx : Hid ((bb || dd) = true ↔ ∃ (i : Nat) (x : Nat × KS), i < j + 1 /\ ls[i]? = some x /\ p.cl <= x.1) := by
       rw [Bool.or_eq_true, HJ.out];constructor
       ·rintro (⟨i, x, h1, h2, h3⟩ | h)
        ·exact ⟨i, x, by omega, h2, h3⟩
        ·refine ⟨j, _, by omega, Hx.out, ?_⟩
         rw [<- hdd, decide_eq_true_eq] at h;have := Hcl.out;dsimp only; omega
       ·rintro ⟨i, x, h1, h2, h3⟩
        by_cases e : i = j
        ·subst e
         rw [Hx.out] at h2;cases h2
         right;rw [<- hdd, decide_eq_true_eq];have := Hcl.out;dsimp only at h3; omega
        ·exact .inl ⟨i, x, by omega, h2, h3⟩
      clear HJ;cases bb
      ·simp only [Bool.false_or] at Hnx
       go_wp2;go_roundg g3
       case measure => omega
       case rel => exact ⟨j + 1, dd, by omega, by first | rfl | simp, rfl, rfl, Hnx.out⟩
      ·simp only [Bool.true_or] at Hnx
       clear hdd;go_wp2;go_roundg g3
       case measure => omega
       case rel => exact ⟨j + 1, true, by omega, by first | rfl | simp, rfl, rfl, ⟨fun _ => Hnx.out.1 trivial, fun _ => rfl⟩⟩
     | zero =>
      have HO : Hid (bb = outK p k) := by
       show _ = _;rw [Bool.eq_iff_iff, HJ.out, <- Hls.out];constructor
       ·rintro ⟨i, x, _, h2, h3⟩; exact ⟨i, x, h2, h3⟩
       ·rintro ⟨i, x, h2, h3⟩
        have : i < ls.length := (List.getElem?_eq_some_iff.1 h2).1;exact ⟨i, x, by rw [Hnl.out.1] at this; omega, h2, h3⟩
      clear HJ;obtain ⟨sc, hsc⟩ : ∃ x, J0g p (p.ins k) s = x := ⟨_, rfl⟩;have Hsc2 : Hid (J0g p (p.ins k) s = sc) := hsc
      have Csec : Hid (∀ w1 : World, More wm w1 -> Calls Tryz.prog 15 #[.agg #[.slice ra p.rl rc, .slice (some ⟨cb, co, none⟩) cl cc], .agg #[V op, V a, V b, V ic, V n], .slice (some ⟨gs, 0, none⟩) 8 cs] w1 fun e w' => e = .returned (.bool sc) /\ More w1 w') := fun w1 m => by
       have := Ja3 p ⟨ra, rb, ro, rc, some ⟨cb, co, none⟩, cb, co, cc⟩ k gs cs s w1 (H.out.1.more ((HM0.out.trans HMm.out).trans m)) Hi.out (Hks.out.more m);rw [hsc, HI.out] at this;dsimp only at this;rw [Hcl.out] at this;exact this
      clear hsc;have HB3 : Hid (Blk w3 wm.heap.size #[V op, V a, V b, V ic, V n] 42) := HB8.out.more HM3.out;have i0 : w3.cell? ⟨wm.heap.size, 0, none⟩ = some (V op) := HB3.out.cell rfl;have Hrf : Hid (More w3 w3) := More.refl _;by_cases hop : op = 3 \/ op = 4
      ·-- a word at an index
       rcases hop with rfl | rfl
       all_goals
        have hI := Hi.out;unfold InsOk Reg Rgn at hI;rw [HI.out] at hI;simp at hI;obtain rfl : ra = some ⟨rb, ro, none⟩ := H.out.1.hr (by omega);obtain ⟨lg, hlg⟩ : ∃ x, p.log ic.toNat = x := ⟨_, rfl⟩
        have Hlg : Hid (∀ w' : World, More wm w' -> w'.cell? ⟨rb, ro + ic.toNat * 2, none⟩ = some (V lg)) := fun w' m => by
         have := ((H.out.1.more ((HM0.out.trans HMm.out).trans m)).regs ic.toNat (by omega)).1;rw [hlg] at this; exact this
        obtain ⟨xb, hxb⟩ : ∃ x, s b.toNat = x := ⟨_, rfl⟩;obtain ⟨v, hv⟩ : ∃ v, Kn.index xb n = v := ⟨_, rfl⟩;have hnn := H.out.2.2 k Hpk.out;rw [HI.out] at hnn;dsimp only at hnn;have Cix : Hid (∀ w : World, Calls Tryz.prog 14 #[kn xb.b xb.s, V n] w fun e w' => e = .returned (kn v.b v.s) /\ More w w') := fun w => hv ▸ J6n xb n hnn.1 hnn.2 w
        have HbK : Hid (J1c p (p.ins k) s = (decide (n < 0) || decide (lg < v.b))) := by
         show _ = _;unfold J1c; rw [HI.out]; dsimp only;rw [hxb, hv, hlg]; simp
        have b0 : 0 <= b := by omega
        have b1 : b < 8 := by omega
        have ic0 : 0 <= ic := by omega
        have ic1 : ic < p.rl := by omega
        have Hxb : Hid (s b.toNat = ⟨xb.b, xb.s⟩) := hxb;clear hlg hxb hv hI hnn;obtain ⟨vb, vs⟩ := v;obtain ⟨xbb, xbs⟩ := xb;unfold kn at Cix;dsimp only at Cix HbK Hxb;obtain ⟨T, HT⟩ : ∃ T : World -> Prop, Hid (∀ w', T w' ↔ More w3 w') := ⟨_, fun _ => Iff.rfl⟩;have HT0 : T w3.drew := (HT.out _).2 (More.refl _).drew;have hneT : Nonempty { w' // T w' } := ⟨⟨_, HT0⟩⟩;have HMt : Hid (More wm w3) := HM8.out.trans HM3.out;have k0 : ∀ i : { w' // T w' }, i.val.cell? ⟨lb, k * 2 + 1, none⟩ = some (.slice (some ⟨gs, 0, none⟩) 8 cs) := fun i => (HMt.out.trans ((HT.out _).1 i.property)).cell c1
        have k1 : ∀ i : { w' // T w' }, i.val.cell? ⟨gs, b.toNat * 2, none⟩ = some (V xbb) := fun i => by have := ((Hks.out.more (HMt.out.trans ((HT.out _).1 i.property))) b.toNat (by omega)).1.1; rw [Hxb.out] at this; exact this
        have k2 : ∀ i : { w' // T w' }, i.val.cell? ⟨gs, b.toNat * 2 + 1, none⟩ = some (.bool xbs) := fun i => by have := ((Hks.out.more (HMt.out.trans ((HT.out _).1 i.property))) b.toNat (by omega)).1.2; rw [Hxb.out] at this; exact this
        have k3 : ∀ i : { w' // T w' }, i.val.cell? ⟨wm.heap.size, 2, none⟩ = some (V b) := fun i => (HB3.out.more ((HT.out _).1 i.property)).cell rfl
        have k4 : ∀ i : { w' // T w' }, i.val.cell? ⟨wm.heap.size, 4, none⟩ = some (V n) := fun i => (HB3.out.more ((HT.out _).1 i.property)).cell rfl
        have k5 : True := trivial;have k6 : True := trivial;have k7 : True := trivial;go_wp2_with (fail)
        clear i0;refine J1m (S := T) (by kernel_rfl) HT0 ?_;refine J08 0 rfl (by kernel_rfl) HT0 (by kernel_rfl) (fun K hK => ?_); go_simp; refine hK _ _ ?_; clear hK K;refine J08 1 rfl (by kernel_rfl) HT0 (by kernel_rfl) (fun K hK => ?_); go_simp; refine hK _ _ ?_; clear hK K;refine J08 2 rfl (by kernel_rfl) HT0 (by kernel_rfl) (fun K hK => ?_); go_simp; refine hK _ _ ?_; clear hK K;refine J08 3 rfl (by kernel_rfl) HT0 (by kernel_rfl) (fun K hK => ?_); go_simp; refine hK _ _ ?_; clear hK K;refine J08 4 rfl (by kernel_rfl) HT0 (by kernel_rfl) (fun K hK => ?_); go_simp; refine hK _ _ ?_; clear hK K;refine J08 5 rfl (by kernel_rfl) HT0 (by kernel_rfl) (fun K hK => ?_); go_simp; refine hK _ _ ?_; clear hK K;refine J08 6 rfl (by kernel_rfl) HT0 (by kernel_rfl) (fun K hK => ?_); go_simp; refine hK _ _ ?_; clear hK K;refine J08 7 rfl (by kernel_rfl) HT0 (by kernel_rfl) (fun K hK => ?_); go_simp; refine hK _ _ ?_; clear hK K;refine J08 8 rfl (by kernel_rfl) HT0 (by kernel_rfl) (fun K hK => ?_); go_simp; refine hK _ _ ?_; clear hK K;refine J08 9 rfl (by kernel_rfl) HT0 (by kernel_rfl) (fun K hK => ?_); go_simp; refine hK _ _ ?_; clear hK K;refine J08 10 rfl (by kernel_rfl) HT0 (by kernel_rfl) (fun K hK => ?_); go_simp; refine hK _ _ ?_; clear hK K;refine J3o 11 12 (by kernel_rfl) ?_ ?_
        ·-- the call, then the new block
         refine J0a rfl (by kernel_rfl) (fun K hK => ?_); go_simp;refine (Cix.out _).mono ?_;rintro e w5 ⟨rfl, m5⟩;have M5 : Hid (More w3 w5) := (More.refl _).drew.trans m5;clear m5
         go_simp
         refine hK _ _ ((HT.out _).2 M5.out) ?_; clear hK K;refine J0x 12 (by kernel_rfl) ?_;refine J0a rfl (by kernel_rfl) (fun K hK => ?_); go_simp;refine hK _ _ ((HT.out _).2 (M5.out.alloc _ _)) ?_; clear hK K;refine J0x 13 (by kernel_rfl) ?_;refine J0a rfl (by kernel_rfl) (fun K hK => ?_); go_simp;obtain ⟨w6, Hw6⟩ : ∃ w6 : World, Hid (w6 = w5.alloc (.cells #[V vb, .bool vs] 56)) := ⟨_, rfl⟩;have HM6 : Hid (More w3 w6) := Hw6.out ▸ M5.out.alloc _ _;obtain ⟨bx, Hbx⟩ : ∃ bx, Hid (bx = w5.heap.size) := ⟨_, rfl⟩;have HB6 : Hid (Blk w6 bx #[V vb, .bool vs] 56) := Hw6.out ▸ Hbx.out ▸ Blk.last _ _ _;rw [<- Hw6.out, <- Hbx.out];refine hK _ _ ((HT.out _).2 HM6.out) ?_; clear hK K;refine J3y (by kernel_rfl) ?_;clear k0 k1 k2 k3 k4 k5 k6 k7 hneT HT0;have HMy : Hid (More wm w6) := (HM8.out.trans HM3.out).trans HM6.out;have HBi : Hid (Blk w6 wm.heap.size #[V _, V a, V b, V ic, V n] 42) := HB3.out.more HM6.out;obtain ⟨X, HX⟩ : ∃ X : World -> Prop, Hid (∀ w', X w' ↔ More w6 w') := ⟨_, fun _ => Iff.rfl⟩;have HX0 : X w6.drew := (HX.out _).2 (More.refl _).drew;have hneX : Nonempty { w' // X w' } := ⟨⟨_, HX0⟩⟩;have x0 : ∀ i : { w' // X w' }, i.val.cell? ⟨bx, 0, none⟩ = some (V vb) := fun i => (HB6.out.more ((HX.out _).1 i.property)).cell rfl
         have x1 : ∀ i : { w' // X w' }, i.val.cell? ⟨wm.heap.size, 4, none⟩ = some (V n) := fun i => (HBi.out.more ((HX.out _).1 i.property)).cell rfl
         have x2 : ∀ i : { w' // X w' }, i.val.cell? ⟨wm.heap.size, 3, none⟩ = some (V ic) := fun i => (HBi.out.more ((HX.out _).1 i.property)).cell rfl
         have x3 : ∀ i : { w' // X w' }, i.val.cell? ⟨w.heap.size, 0, none⟩ = some (.slice (some ⟨rb, ro, none⟩) p.rl rc) := fun i => (HMy.out.trans ((HX.out _).1 i.property)).cell p0
         have x4 : ∀ i : { w' // X w' }, i.val.cell? ⟨rb, ro + ic.toNat * 2, none⟩ = some (V lg) := fun i => Hlg.out _ (HMy.out.trans ((HX.out _).1 i.property))
         have x5 : True := trivial;go_wp2_with (fail)
         refine J03 (S := X) [(0, true), (1, true), (2, true), (3, true), (4, true), (5, true), (6, true), (7, true), (8, true), (9, true), (10, true), (11, true), (12, true), (13, true), (14, true), (15, true), (16, true), (17, true), (18, true)] (by kernel_rfl) (by kernel_rfl) (by kernel_rfl) HX0 ?_
         iterate 2 (refine J00 rfl (by kernel_rfl) (fun K hK => ?_); go_simp; refine hK _ _ ?_; clear hK K)
         cases bb with
         | true =>
          iterate 3 (refine J2i rfl HX0 (by kernel_rfl) (fun K hK => ?_); go_simp; refine hK _ _ ?_; clear hK K)
          refine J0q rfl rfl (by kernel_rfl) rfl (fun K hK => ?_); go_simp; refine hK _ _ ?_; clear hK K
          (refine J00 rfl (by kernel_rfl) (fun K hK => ?_); go_simp; refine hK _ _ ?_; clear hK K)
          iterate 10 (refine J2i rfl HX0 (by kernel_rfl) (fun K hK => ?_); go_simp; refine hK _ _ ?_; clear hK K)
          refine J0q rfl rfl (by kernel_rfl) rfl (fun K hK => ?_); go_simp; refine hK _ _ ?_; clear hK K
          (refine J00 rfl (by kernel_rfl) (fun K hK => ?_); go_simp; refine hK _ _ ?_; clear hK K)
          have Hck : Hid (J09 p L = (4, (k : Int))) := by
           show _ = _;have hf : J0p p k s = 4 := by unfold J0p; rw [<- HO.out]; rfl
           rw [Hn2.out, hf]; rfl
          refine J04 ?_;clear x0 x1 x2 x3 x4 x5 hneX HX0;have HMz : Hid (More W0 w6.drew) := (((HMm.out.trans HM8.out).trans HM3.out).trans HM6.out).drew;have t0 : w6.cell? ⟨w.heap.size + 1, 0, none⟩ = some (V 0) := (HRES.out.more (((HMm.out.trans HM8.out).trans HM3.out).trans HM6.out)).cell rfl;have t1 : w6.cell? ⟨w.heap.size + 1, 1, none⟩ = some (V 0) := (HRES.out.more (((HMm.out.trans HM8.out).trans HM3.out).trans HM6.out)).cell rfl;have u0 : w6.frozen? ⟨w.heap.size + 1, 0, none⟩ = false := (HRES.out.more (((HMm.out.trans HM8.out).trans HM3.out).trans HM6.out)).frozen 0;have u1 : w6.frozen? ⟨w.heap.size + 1, 1, none⟩ = false := (HRES.out.more (((HMm.out.trans HM8.out).trans HM3.out).trans HM6.out)).frozen 1;go_wp2;refine bodyPost_ret (v := flt 4 k) (by simp [flt, results, Tryz.results4, go_sem, *]) rfl ?_;have hE := HP.out L HV2.out.2 _ (((HM0.out.trans (((HMm.out.trans HM8.out).trans HM3.out).trans HM6.out)).setCell (a := ⟨w.heap.size + 1, 0, none⟩) (by dsimp only; omega) (V 4)).setCell (a := ⟨w.heap.size + 1, 1, none⟩) (by dsimp only; omega) (V k)).drew;rw [Hck.out] at hE;exact hE
         | false =>
          by_cases hn0 : n < 0
          ·have hdn : decide (n < 0) = true := by simp [hn0]
           have Hbd : Hid (J1c p (p.ins k) s = true) := by show _ = _; rw [HbK.out, hdn]; rfl
           iterate 3 (refine J00 rfl (by kernel_rfl) (fun K hK => ?_); go_simp; refine hK _ _ ?_; clear hK K)
           refine J0n rfl rfl (by kernel_rfl) rfl (fun K hK => ?_); go_simp; refine hK _ _ ?_; clear hK K
           (refine J00 rfl (by kernel_rfl) (fun K hK => ?_); go_simp; refine hK _ _ ?_; clear hK K)
           iterate 10 (refine J2i rfl HX0 (by kernel_rfl) (fun K hK => ?_); go_simp; refine hK _ _ ?_; clear hK K)
           refine J0q rfl rfl (by kernel_rfl) rfl (fun K hK => ?_); go_simp; refine hK _ _ ?_; clear hK K
           (refine J00 rfl (by kernel_rfl) (fun K hK => ?_); go_simp; refine hK _ _ ?_; clear hK K)
           have Hck : Hid (J09 p L = (4, (k : Int))) := by
            show _ = _;have hf : J0p p k s = 4 := by unfold J0p; rw [Hbd.out, Bool.or_true]; rfl
            rw [Hn2.out, hf]; rfl
           refine J04 ?_;clear x0 x1 x2 x3 x4 x5 hneX HX0;have HMz : Hid (More W0 w6.drew) := (((HMm.out.trans HM8.out).trans HM3.out).trans HM6.out).drew;have t0 : w6.cell? ⟨w.heap.size + 1, 0, none⟩ = some (V 0) := (HRES.out.more (((HMm.out.trans HM8.out).trans HM3.out).trans HM6.out)).cell rfl;have t1 : w6.cell? ⟨w.heap.size + 1, 1, none⟩ = some (V 0) := (HRES.out.more (((HMm.out.trans HM8.out).trans HM3.out).trans HM6.out)).cell rfl;have u0 : w6.frozen? ⟨w.heap.size + 1, 0, none⟩ = false := (HRES.out.more (((HMm.out.trans HM8.out).trans HM3.out).trans HM6.out)).frozen 0;have u1 : w6.frozen? ⟨w.heap.size + 1, 1, none⟩ = false := (HRES.out.more (((HMm.out.trans HM8.out).trans HM3.out).trans HM6.out)).frozen 1;go_wp2;refine bodyPost_ret (v := flt 4 k) (by simp [flt, results, Tryz.results4, go_sem, *]) rfl ?_;have hE := HP.out L HV2.out.2 _ (((HM0.out.trans (((HMm.out.trans HM8.out).trans HM3.out).trans HM6.out)).setCell (a := ⟨w.heap.size + 1, 0, none⟩) (by dsimp only; omega) (V 4)).setCell (a := ⟨w.heap.size + 1, 1, none⟩) (by dsimp only; omega) (V k)).drew;rw [Hck.out] at hE;exact hE
          ·have hdn : decide (n < 0) = false := by simp [hn0]
           iterate 3 (refine J00 rfl (by kernel_rfl) (fun K hK => ?_); go_simp; refine hK _ _ ?_; clear hK K)
           refine J0n rfl rfl (by kernel_rfl) rfl (fun K hK => ?_); go_simp; refine hK _ _ ?_; clear hK K
           iterate 11 (refine J00 rfl (by kernel_rfl) (fun K hK => ?_); go_simp; refine hK _ _ ?_; clear hK K)
           refine J0n rfl rfl (by kernel_rfl) rfl (fun K hK => ?_); go_simp; refine hK _ _ ?_; clear hK K
           (refine J00 rfl (by kernel_rfl) (fun K hK => ?_); go_simp; refine hK _ _ ?_; clear hK K)
           by_cases hlv : lg < vb
           ·have Hbd : Hid (J1c p (p.ins k) s = true) := by show _ = _; rw [HbK.out, hdn, decide_eq_true hlv]; rfl
            have Hck : Hid (J09 p L = (4, (k : Int))) := by
             show _ = _;have hf : J0p p k s = 4 := by unfold J0p; rw [Hbd.out, Bool.or_true]; rfl
             rw [Hn2.out, hf]; rfl
            refine J04 ?_;clear x0 x1 x2 x3 x4 x5 hneX HX0;have HMz : Hid (More W0 w6.drew) := (((HMm.out.trans HM8.out).trans HM3.out).trans HM6.out).drew;have t0 : w6.cell? ⟨w.heap.size + 1, 0, none⟩ = some (V 0) := (HRES.out.more (((HMm.out.trans HM8.out).trans HM3.out).trans HM6.out)).cell rfl;have t1 : w6.cell? ⟨w.heap.size + 1, 1, none⟩ = some (V 0) := (HRES.out.more (((HMm.out.trans HM8.out).trans HM3.out).trans HM6.out)).cell rfl;have u0 : w6.frozen? ⟨w.heap.size + 1, 0, none⟩ = false := (HRES.out.more (((HMm.out.trans HM8.out).trans HM3.out).trans HM6.out)).frozen 0;have u1 : w6.frozen? ⟨w.heap.size + 1, 1, none⟩ = false := (HRES.out.more (((HMm.out.trans HM8.out).trans HM3.out).trans HM6.out)).frozen 1;go_wp2;refine bodyPost_ret (v := flt 4 k) (by simp [flt, results, Tryz.results4, go_sem, *]) rfl ?_;have hE := HP.out L HV2.out.2 _ (((HM0.out.trans (((HMm.out.trans HM8.out).trans HM3.out).trans HM6.out)).setCell (a := ⟨w.heap.size + 1, 0, none⟩) (by dsimp only; omega) (V 4)).setCell (a := ⟨w.heap.size + 1, 1, none⟩) (by dsimp only; omega) (V k)).drew;rw [Hck.out] at hE;exact hE
           ·have hdl : decide (lg < vb) = false := by simp [hlv]
            have Hno : Hid ((outK p k || J1c p (p.ins k) s) = false) := by show _ = _; rw [<- HO.out, HbK.out, hdn, hdl]; rfl
            refine J04 ?_;clear x0 x1 x2 x3 x4 x5 hneX HX0;have HMd : Hid (More w3 w6.drew) := HM6.out.drew;obtain ⟨w7, Hw7⟩ : ∃ w7 : World, Hid (w7 = w6.drew) := ⟨_, rfl⟩;have HMe : Hid (More w3 w7) := Hw7.out ▸ HMd.out;rw [<- Hw7.out];have HMx : Hid (More wm w7) := (HM8.out.trans HM3.out).trans HMe.out;have HBx : Hid (Blk w7 wm.heap.size #[V _, V a, V b, V ic, V n] 42) := (HB8.out.more HM3.out).more HMe.out;obtain ⟨U, HU⟩ : ∃ U : World -> Prop, Hid (∀ w', U w' ↔ More w7 w') := ⟨_, fun _ => Iff.rfl⟩;have HU0 : U w7.drew := (HU.out _).2 (More.refl _).drew;have hneU : Nonempty { w' // U w' } := ⟨⟨_, HU0⟩⟩;have g0 : ∀ i : { w' // U w' }, i.val.cell? ⟨w.heap.size, 0, none⟩ = some (.slice (some ⟨rb, ro, none⟩) p.rl rc) := fun i => (HMx.out.trans ((HU.out _).1 i.property)).cell p0
            have g1 : ∀ i : { w' // U w' }, i.val.cell? ⟨w.heap.size, 1, none⟩ = some (.slice (some ⟨cb, co, none⟩) cl cc) := fun i => (HMx.out.trans ((HU.out _).1 i.property)).cell p1
            have g2 : ∀ i : { w' // U w' }, i.val.cell? ⟨lb, k * 2 + 1, none⟩ = some (.slice (some ⟨gs, 0, none⟩) 8 cs) := fun i => (HMx.out.trans ((HU.out _).1 i.property)).cell c1
            have g3 : ∀ i : { w' // U w' }, i.val.cell? ⟨wm.heap.size, 0, none⟩ = some (V _) := fun i => (HBx.out.more ((HU.out _).1 i.property)).cell rfl
            have g4 : ∀ i : { w' // U w' }, i.val.cell? ⟨wm.heap.size, 1, none⟩ = some (V a) := fun i => (HBx.out.more ((HU.out _).1 i.property)).cell rfl
            have g5 : ∀ i : { w' // U w' }, i.val.cell? ⟨wm.heap.size, 2, none⟩ = some (V b) := fun i => (HBx.out.more ((HU.out _).1 i.property)).cell rfl
            have g6 : ∀ i : { w' // U w' }, i.val.cell? ⟨wm.heap.size, 3, none⟩ = some (V ic) := fun i => (HBx.out.more ((HU.out _).1 i.property)).cell rfl
            have g7 : ∀ i : { w' // U w' }, i.val.cell? ⟨wm.heap.size, 4, none⟩ = some (V n) := fun i => (HBx.out.more ((HU.out _).1 i.property)).cell rfl
            go_wp2_with (fail)
            refine J03 (S := U) [(0, true), (1, true), (2, true), (3, true), (4, true), (5, true), (6, true), (7, false)] (by kernel_rfl) (by kernel_rfl) (by kernel_rfl) HU0 ?_
            iterate 7 (refine J00 rfl (by kernel_rfl) (fun K hK => ?_); go_simp; refine hK _ _ ?_; clear hK K)
            refine J02 rfl (by kernel_rfl) (fun K hK => ?_); go_simp;refine (Csec.out _ (HMx.out.drew)).mono ?_;rintro e w9 ⟨rfl, m9⟩;have HM9 : Hid (More w7 w9) := (More.refl _).drew.trans m9;have HU9 : U w9 := (HU.out _).2 HM9.out;clear m9;cases sc with
            | true =>
             have Hck : Hid (J09 p L = (5, (k : Int))) := by
              show _ = _;have hf : J0p p k s = 5 := by unfold J0p; rw [Hno.out, Hsc2.out]; rfl
              rw [Hn2.out, hf]; rfl
             go_simp
             refine hK _ _ HU9 ?_; clear hK K;refine J04 ?_;clear g0 g1 g2 g3 g4 g5 g6 g7 hneU HU0 HU9;have t0 := (HRES.out.more ((HMm.out.trans HMx.out).trans HM9.out)).cell (j := 0) (v := V 0) rfl;have t1 := (HRES.out.more ((HMm.out.trans HMx.out).trans HM9.out)).cell (j := 1) (v := V 0) rfl;have u0 := (HRES.out.more ((HMm.out.trans HMx.out).trans HM9.out)).frozen 0;have u1 := (HRES.out.more ((HMm.out.trans HMx.out).trans HM9.out)).frozen 1;go_wp2;refine bodyPost_ret (v := flt 5 k) (by simp [flt, results, Tryz.results4, go_sem, *]) rfl ?_;have hE := HP.out L HV2.out.2 _ (((HM0.out.trans ((HMm.out.trans HMx.out).trans HM9.out)).setCell (a := ⟨w.heap.size + 1, 0, none⟩) (by dsimp only; omega) (V 5)).setCell (a := ⟨w.heap.size + 1, 1, none⟩) (by dsimp only; omega) (V k));rw [Hck.out] at hE;exact hE
            | false =>
             have Hck : Hid (J09 p L = scanK p L g (k + 1)) := by
              show _ = _;have hf : J0p p k s = 0 := by unfold J0p; rw [Hno.out, Hsc2.out]; rfl
              rw [Hn2.out, if_pos hf]
             go_simp
             refine hK _ _ HU9 ?_; clear hK K;refine J04 ?_;clear g0 g1 g2 g3 g4 g5 g6 g7 hneU HU0 HU9;go_wp2;go_roundg g
             case measure => omega
             case rel => exact ⟨k + 1, by omega, by first | rfl | simp, (HMw.out.trans HMx.out).trans HM9.out, Hck.out⟩
        ·-- the new block, then the call
         refine J0a rfl (by kernel_rfl) (fun K hK => ?_); go_simp;refine hK _ _ ((HT.out _).2 ((More.refl _).drew.alloc _ _)) ?_; clear hK K;refine J0x 11 (by kernel_rfl) ?_;refine J0a rfl (by kernel_rfl) (fun K hK => ?_); go_simp;refine (Cix.out _).mono ?_;rintro e w5 ⟨rfl, m5⟩;have M5 : Hid (More w3 w5) := ((More.refl _).drew.alloc _ _).trans m5;have HB5 : Hid (Blk w5 w3.heap.size #[V 0, .bool false] 56) := (Blk.last w3.drew _ _).more m5;clear m5
         go_simp
         refine hK _ _ ((HT.out _).2 M5.out) ?_; clear hK K;refine J0x 13 (by kernel_rfl) ?_;have y0 := HB5.out.cell (j := 0) (v := V 0) rfl;have y1 := HB5.out.cell (j := 1) (v := .bool false) rfl;have y2 := HB5.out.frozen 0;have y3 := HB5.out.frozen 1;refine J0a rfl (by kernel_rfl) (fun K hK => ?_); go_simp;obtain ⟨w6, Hw6⟩ : ∃ w6 : World, Hid (w6 = (w5.setCell ⟨w3.heap.size, 0, none⟩ (V vb)).setCell ⟨w3.heap.size, 1, none⟩ (.bool vs)) := ⟨_, rfl⟩;have HM6 : Hid (More w3 w6) := Hw6.out ▸ (M5.out.setCell (Nat.le_refl _) _).setCell (Nat.le_refl _) _;obtain ⟨bx, Hbx⟩ : ∃ bx, Hid (bx = w3.heap.size) := ⟨_, rfl⟩
         have HB6 : Hid (Blk w6 bx #[V vb, .bool vs] 56) := by
          show Blk _ _ _ _;rw [Hw6.out, Hbx.out];have h1 := HB5.out;unfold Blk at h1 |-;simp [World.setCell, Array.getElem?_modify, h1]
         rw [<- Hw6.out];simp only [<- Hbx.out];clear y0 y1 y2 y3;refine hK _ _ ((HT.out _).2 HM6.out) ?_; clear hK K;refine J3y (by kernel_rfl) ?_;clear k0 k1 k2 k3 k4 k5 k6 k7 hneT HT0;have HMy : Hid (More wm w6) := (HM8.out.trans HM3.out).trans HM6.out;have HBi : Hid (Blk w6 wm.heap.size #[V _, V a, V b, V ic, V n] 42) := HB3.out.more HM6.out;obtain ⟨X, HX⟩ : ∃ X : World -> Prop, Hid (∀ w', X w' ↔ More w6 w') := ⟨_, fun _ => Iff.rfl⟩;have HX0 : X w6.drew := (HX.out _).2 (More.refl _).drew;have hneX : Nonempty { w' // X w' } := ⟨⟨_, HX0⟩⟩;have x0 : ∀ i : { w' // X w' }, i.val.cell? ⟨bx, 0, none⟩ = some (V vb) := fun i => (HB6.out.more ((HX.out _).1 i.property)).cell rfl
         have x1 : ∀ i : { w' // X w' }, i.val.cell? ⟨wm.heap.size, 4, none⟩ = some (V n) := fun i => (HBi.out.more ((HX.out _).1 i.property)).cell rfl
         have x2 : ∀ i : { w' // X w' }, i.val.cell? ⟨wm.heap.size, 3, none⟩ = some (V ic) := fun i => (HBi.out.more ((HX.out _).1 i.property)).cell rfl
         have x3 : ∀ i : { w' // X w' }, i.val.cell? ⟨w.heap.size, 0, none⟩ = some (.slice (some ⟨rb, ro, none⟩) p.rl rc) := fun i => (HMy.out.trans ((HX.out _).1 i.property)).cell p0
         have x4 : ∀ i : { w' // X w' }, i.val.cell? ⟨rb, ro + ic.toNat * 2, none⟩ = some (V lg) := fun i => Hlg.out _ (HMy.out.trans ((HX.out _).1 i.property))
         have x5 : True := trivial;go_wp2_with (fail)
         refine J03 (S := X) [(0, true), (1, true), (2, true), (3, true), (4, true), (5, true), (6, true), (7, true), (8, true), (9, true), (10, true), (11, true), (12, true), (13, true), (14, true), (15, true), (16, true), (17, true), (18, true)] (by kernel_rfl) (by kernel_rfl) (by kernel_rfl) HX0 ?_
         iterate 2 (refine J00 rfl (by kernel_rfl) (fun K hK => ?_); go_simp; refine hK _ _ ?_; clear hK K)
         cases bb with
         | true =>
          iterate 3 (refine J2i rfl HX0 (by kernel_rfl) (fun K hK => ?_); go_simp; refine hK _ _ ?_; clear hK K)
          refine J0q rfl rfl (by kernel_rfl) rfl (fun K hK => ?_); go_simp; refine hK _ _ ?_; clear hK K
          (refine J00 rfl (by kernel_rfl) (fun K hK => ?_); go_simp; refine hK _ _ ?_; clear hK K)
          iterate 10 (refine J2i rfl HX0 (by kernel_rfl) (fun K hK => ?_); go_simp; refine hK _ _ ?_; clear hK K)
          refine J0q rfl rfl (by kernel_rfl) rfl (fun K hK => ?_); go_simp; refine hK _ _ ?_; clear hK K
          (refine J00 rfl (by kernel_rfl) (fun K hK => ?_); go_simp; refine hK _ _ ?_; clear hK K)
          have Hck : Hid (J09 p L = (4, (k : Int))) := by
           show _ = _;have hf : J0p p k s = 4 := by unfold J0p; rw [<- HO.out]; rfl
           rw [Hn2.out, hf]; rfl
          refine J04 ?_;clear x0 x1 x2 x3 x4 x5 hneX HX0;have HMz : Hid (More W0 w6.drew) := (((HMm.out.trans HM8.out).trans HM3.out).trans HM6.out).drew;have t0 : w6.cell? ⟨w.heap.size + 1, 0, none⟩ = some (V 0) := (HRES.out.more (((HMm.out.trans HM8.out).trans HM3.out).trans HM6.out)).cell rfl;have t1 : w6.cell? ⟨w.heap.size + 1, 1, none⟩ = some (V 0) := (HRES.out.more (((HMm.out.trans HM8.out).trans HM3.out).trans HM6.out)).cell rfl;have u0 : w6.frozen? ⟨w.heap.size + 1, 0, none⟩ = false := (HRES.out.more (((HMm.out.trans HM8.out).trans HM3.out).trans HM6.out)).frozen 0;have u1 : w6.frozen? ⟨w.heap.size + 1, 1, none⟩ = false := (HRES.out.more (((HMm.out.trans HM8.out).trans HM3.out).trans HM6.out)).frozen 1;go_wp2;refine bodyPost_ret (v := flt 4 k) (by simp [flt, results, Tryz.results4, go_sem, *]) rfl ?_;have hE := HP.out L HV2.out.2 _ (((HM0.out.trans (((HMm.out.trans HM8.out).trans HM3.out).trans HM6.out)).setCell (a := ⟨w.heap.size + 1, 0, none⟩) (by dsimp only; omega) (V 4)).setCell (a := ⟨w.heap.size + 1, 1, none⟩) (by dsimp only; omega) (V k)).drew;rw [Hck.out] at hE;exact hE
         | false =>
          by_cases hn0 : n < 0
          ·have hdn : decide (n < 0) = true := by simp [hn0]
           have Hbd : Hid (J1c p (p.ins k) s = true) := by show _ = _; rw [HbK.out, hdn]; rfl
           iterate 3 (refine J00 rfl (by kernel_rfl) (fun K hK => ?_); go_simp; refine hK _ _ ?_; clear hK K)
           refine J0n rfl rfl (by kernel_rfl) rfl (fun K hK => ?_); go_simp; refine hK _ _ ?_; clear hK K
           (refine J00 rfl (by kernel_rfl) (fun K hK => ?_); go_simp; refine hK _ _ ?_; clear hK K)
           iterate 10 (refine J2i rfl HX0 (by kernel_rfl) (fun K hK => ?_); go_simp; refine hK _ _ ?_; clear hK K)
           refine J0q rfl rfl (by kernel_rfl) rfl (fun K hK => ?_); go_simp; refine hK _ _ ?_; clear hK K
           (refine J00 rfl (by kernel_rfl) (fun K hK => ?_); go_simp; refine hK _ _ ?_; clear hK K)
           have Hck : Hid (J09 p L = (4, (k : Int))) := by
            show _ = _;have hf : J0p p k s = 4 := by unfold J0p; rw [Hbd.out, Bool.or_true]; rfl
            rw [Hn2.out, hf]; rfl
           refine J04 ?_;clear x0 x1 x2 x3 x4 x5 hneX HX0;have HMz : Hid (More W0 w6.drew) := (((HMm.out.trans HM8.out).trans HM3.out).trans HM6.out).drew;have t0 : w6.cell? ⟨w.heap.size + 1, 0, none⟩ = some (V 0) := (HRES.out.more (((HMm.out.trans HM8.out).trans HM3.out).trans HM6.out)).cell rfl;have t1 : w6.cell? ⟨w.heap.size + 1, 1, none⟩ = some (V 0) := (HRES.out.more (((HMm.out.trans HM8.out).trans HM3.out).trans HM6.out)).cell rfl;have u0 : w6.frozen? ⟨w.heap.size + 1, 0, none⟩ = false := (HRES.out.more (((HMm.out.trans HM8.out).trans HM3.out).trans HM6.out)).frozen 0;have u1 : w6.frozen? ⟨w.heap.size + 1, 1, none⟩ = false := (HRES.out.more (((HMm.out.trans HM8.out).trans HM3.out).trans HM6.out)).frozen 1;go_wp2;refine bodyPost_ret (v := flt 4 k) (by simp [flt, results, Tryz.results4, go_sem, *]) rfl ?_;have hE := HP.out L HV2.out.2 _ (((HM0.out.trans (((HMm.out.trans HM8.out).trans HM3.out).trans HM6.out)).setCell (a := ⟨w.heap.size + 1, 0, none⟩) (by dsimp only; omega) (V 4)).setCell (a := ⟨w.heap.size + 1, 1, none⟩) (by dsimp only; omega) (V k)).drew;rw [Hck.out] at hE;exact hE
          ·have hdn : decide (n < 0) = false := by simp [hn0]
           iterate 3 (refine J00 rfl (by kernel_rfl) (fun K hK => ?_); go_simp; refine hK _ _ ?_; clear hK K)
           refine J0n rfl rfl (by kernel_rfl) rfl (fun K hK => ?_); go_simp; refine hK _ _ ?_; clear hK K
           iterate 11 (refine J00 rfl (by kernel_rfl) (fun K hK => ?_); go_simp; refine hK _ _ ?_; clear hK K)
           refine J0n rfl rfl (by kernel_rfl) rfl (fun K hK => ?_); go_simp; refine hK _ _ ?_; clear hK K
           (refine J00 rfl (by kernel_rfl) (fun K hK => ?_); go_simp; refine hK _ _ ?_; clear hK K)
           by_cases hlv : lg < vb
           ·have Hbd : Hid (J1c p (p.ins k) s = true) := by show _ = _; rw [HbK.out, hdn, decide_eq_true hlv]; rfl
            have Hck : Hid (J09 p L = (4, (k : Int))) := by
             show _ = _;have hf : J0p p k s = 4 := by unfold J0p; rw [Hbd.out, Bool.or_true]; rfl
             rw [Hn2.out, hf]; rfl
            refine J04 ?_;clear x0 x1 x2 x3 x4 x5 hneX HX0;have HMz : Hid (More W0 w6.drew) := (((HMm.out.trans HM8.out).trans HM3.out).trans HM6.out).drew;have t0 : w6.cell? ⟨w.heap.size + 1, 0, none⟩ = some (V 0) := (HRES.out.more (((HMm.out.trans HM8.out).trans HM3.out).trans HM6.out)).cell rfl;have t1 : w6.cell? ⟨w.heap.size + 1, 1, none⟩ = some (V 0) := (HRES.out.more (((HMm.out.trans HM8.out).trans HM3.out).trans HM6.out)).cell rfl;have u0 : w6.frozen? ⟨w.heap.size + 1, 0, none⟩ = false := (HRES.out.more (((HMm.out.trans HM8.out).trans HM3.out).trans HM6.out)).frozen 0;have u1 : w6.frozen? ⟨w.heap.size + 1, 1, none⟩ = false := (HRES.out.more (((HMm.out.trans HM8.out).trans HM3.out).trans HM6.out)).frozen 1;go_wp2;refine bodyPost_ret (v := flt 4 k) (by simp [flt, results, Tryz.results4, go_sem, *]) rfl ?_;have hE := HP.out L HV2.out.2 _ (((HM0.out.trans (((HMm.out.trans HM8.out).trans HM3.out).trans HM6.out)).setCell (a := ⟨w.heap.size + 1, 0, none⟩) (by dsimp only; omega) (V 4)).setCell (a := ⟨w.heap.size + 1, 1, none⟩) (by dsimp only; omega) (V k)).drew;rw [Hck.out] at hE;exact hE
           ·have hdl : decide (lg < vb) = false := by simp [hlv]
            have Hno : Hid ((outK p k || J1c p (p.ins k) s) = false) := by show _ = _; rw [<- HO.out, HbK.out, hdn, hdl]; rfl
            refine J04 ?_;clear x0 x1 x2 x3 x4 x5 hneX HX0;have HMd : Hid (More w3 w6.drew) := HM6.out.drew;obtain ⟨w7, Hw7⟩ : ∃ w7 : World, Hid (w7 = w6.drew) := ⟨_, rfl⟩;have HMe : Hid (More w3 w7) := Hw7.out ▸ HMd.out;rw [<- Hw7.out];have HMx : Hid (More wm w7) := (HM8.out.trans HM3.out).trans HMe.out;have HBx : Hid (Blk w7 wm.heap.size #[V _, V a, V b, V ic, V n] 42) := (HB8.out.more HM3.out).more HMe.out;obtain ⟨U, HU⟩ : ∃ U : World -> Prop, Hid (∀ w', U w' ↔ More w7 w') := ⟨_, fun _ => Iff.rfl⟩;have HU0 : U w7.drew := (HU.out _).2 (More.refl _).drew;have hneU : Nonempty { w' // U w' } := ⟨⟨_, HU0⟩⟩;have g0 : ∀ i : { w' // U w' }, i.val.cell? ⟨w.heap.size, 0, none⟩ = some (.slice (some ⟨rb, ro, none⟩) p.rl rc) := fun i => (HMx.out.trans ((HU.out _).1 i.property)).cell p0
            have g1 : ∀ i : { w' // U w' }, i.val.cell? ⟨w.heap.size, 1, none⟩ = some (.slice (some ⟨cb, co, none⟩) cl cc) := fun i => (HMx.out.trans ((HU.out _).1 i.property)).cell p1
            have g2 : ∀ i : { w' // U w' }, i.val.cell? ⟨lb, k * 2 + 1, none⟩ = some (.slice (some ⟨gs, 0, none⟩) 8 cs) := fun i => (HMx.out.trans ((HU.out _).1 i.property)).cell c1
            have g3 : ∀ i : { w' // U w' }, i.val.cell? ⟨wm.heap.size, 0, none⟩ = some (V _) := fun i => (HBx.out.more ((HU.out _).1 i.property)).cell rfl
            have g4 : ∀ i : { w' // U w' }, i.val.cell? ⟨wm.heap.size, 1, none⟩ = some (V a) := fun i => (HBx.out.more ((HU.out _).1 i.property)).cell rfl
            have g5 : ∀ i : { w' // U w' }, i.val.cell? ⟨wm.heap.size, 2, none⟩ = some (V b) := fun i => (HBx.out.more ((HU.out _).1 i.property)).cell rfl
            have g6 : ∀ i : { w' // U w' }, i.val.cell? ⟨wm.heap.size, 3, none⟩ = some (V ic) := fun i => (HBx.out.more ((HU.out _).1 i.property)).cell rfl
            have g7 : ∀ i : { w' // U w' }, i.val.cell? ⟨wm.heap.size, 4, none⟩ = some (V n) := fun i => (HBx.out.more ((HU.out _).1 i.property)).cell rfl
            go_wp2_with (fail)
            refine J03 (S := U) [(0, true), (1, true), (2, true), (3, true), (4, true), (5, true), (6, true), (7, false)] (by kernel_rfl) (by kernel_rfl) (by kernel_rfl) HU0 ?_
            iterate 7 (refine J00 rfl (by kernel_rfl) (fun K hK => ?_); go_simp; refine hK _ _ ?_; clear hK K)
            refine J02 rfl (by kernel_rfl) (fun K hK => ?_); go_simp;refine (Csec.out _ (HMx.out.drew)).mono ?_;rintro e w9 ⟨rfl, m9⟩;have HM9 : Hid (More w7 w9) := (More.refl _).drew.trans m9;have HU9 : U w9 := (HU.out _).2 HM9.out;clear m9;cases sc with
            | true =>
             have Hck : Hid (J09 p L = (5, (k : Int))) := by
              show _ = _;have hf : J0p p k s = 5 := by unfold J0p; rw [Hno.out, Hsc2.out]; rfl
              rw [Hn2.out, hf]; rfl
             go_simp
             refine hK _ _ HU9 ?_; clear hK K;refine J04 ?_;clear g0 g1 g2 g3 g4 g5 g6 g7 hneU HU0 HU9;have t0 := (HRES.out.more ((HMm.out.trans HMx.out).trans HM9.out)).cell (j := 0) (v := V 0) rfl;have t1 := (HRES.out.more ((HMm.out.trans HMx.out).trans HM9.out)).cell (j := 1) (v := V 0) rfl;have u0 := (HRES.out.more ((HMm.out.trans HMx.out).trans HM9.out)).frozen 0;have u1 := (HRES.out.more ((HMm.out.trans HMx.out).trans HM9.out)).frozen 1;go_wp2;refine bodyPost_ret (v := flt 5 k) (by simp [flt, results, Tryz.results4, go_sem, *]) rfl ?_;have hE := HP.out L HV2.out.2 _ (((HM0.out.trans ((HMm.out.trans HMx.out).trans HM9.out)).setCell (a := ⟨w.heap.size + 1, 0, none⟩) (by dsimp only; omega) (V 5)).setCell (a := ⟨w.heap.size + 1, 1, none⟩) (by dsimp only; omega) (V k));rw [Hck.out] at hE;exact hE
            | false =>
             have Hck : Hid (J09 p L = scanK p L g (k + 1)) := by
              show _ = _;have hf : J0p p k s = 0 := by unfold J0p; rw [Hno.out, Hsc2.out]; rfl
              rw [Hn2.out, if_pos hf]
             go_simp
             refine hK _ _ HU9 ?_; clear hK K;refine J04 ?_;clear g0 g1 g2 g3 g4 g5 g6 g7 hneU HU0 HU9;go_wp2;go_roundg g
             case measure => omega
             case rel => exact ⟨k + 1, by omega, by first | rfl | simp, (HMw.out.trans HMx.out).trans HM9.out, Hck.out⟩
      ·have e3 : (op == 3) = false := by simp; omega
       have e4 : (op == 4) = false := by simp; omega
       have Hbd : Hid (J1c p (p.ins k) s = false) := by
        show _ = _;unfold J1c; rw [HI.out]; dsimp only
        simp; omega
       clear hop;cases bb with
       | true =>
        have Hck : Hid (J09 p L = (4, (k : Int))) := by
         show _ = _;have hf : J0p p k s = 4 := by unfold J0p; rw [<- HO.out]; rfl
         rw [Hn2.out, hf]; rfl
        have t0 := (HRES.out.more ((HMm.out.trans HM8.out).trans HM3.out)).cell (j := 0) (v := V 0) rfl;have t1 := (HRES.out.more ((HMm.out.trans HM8.out).trans HM3.out)).cell (j := 1) (v := V 0) rfl;have u0 := (HRES.out.more ((HMm.out.trans HM8.out).trans HM3.out)).frozen 0;have u1 := (HRES.out.more ((HMm.out.trans HM8.out).trans HM3.out)).frozen 1;go_wp2;refine bodyPost_ret (v := flt 4 k) (by simp [flt, results, Tryz.results4, go_sem, *]) rfl ?_;have hE := HP.out L HV2.out.2 _ (((HM0.out.trans ((HMm.out.trans HM8.out).trans HM3.out)).setCell (a := ⟨w.heap.size + 1, 0, none⟩) (by dsimp only; omega) (V 4)).setCell (a := ⟨w.heap.size + 1, 1, none⟩) (by dsimp only; omega) (V k));rw [Hck.out] at hE;exact hE
       | false =>
        have Hno : Hid ((outK p k || J1c p (p.ins k) s) = false) := by show _ = _; rw [<- HO.out, Hbd.out]; rfl
        have HMx : Hid (More wm w3) := (HM8.out.trans HM3.out).trans Hrf.out;have HBx : Hid (Blk w3 wm.heap.size #[V op, V a, V b, V ic, V n] 42) := (HB8.out.more HM3.out).more Hrf.out;obtain ⟨U, HU⟩ : ∃ U : World -> Prop, Hid (∀ w', U w' ↔ More w3 w') := ⟨_, fun _ => Iff.rfl⟩;have HU0 : U w3.drew := (HU.out _).2 (More.refl _).drew;have hneU : Nonempty { w' // U w' } := ⟨⟨_, HU0⟩⟩;have g0 : ∀ i : { w' // U w' }, i.val.cell? ⟨w.heap.size, 0, none⟩ = some (.slice ra p.rl rc) := fun i => (HMx.out.trans ((HU.out _).1 i.property)).cell p0
        have g1 : ∀ i : { w' // U w' }, i.val.cell? ⟨w.heap.size, 1, none⟩ = some (.slice (some ⟨cb, co, none⟩) cl cc) := fun i => (HMx.out.trans ((HU.out _).1 i.property)).cell p1
        have g2 : ∀ i : { w' // U w' }, i.val.cell? ⟨lb, k * 2 + 1, none⟩ = some (.slice (some ⟨gs, 0, none⟩) 8 cs) := fun i => (HMx.out.trans ((HU.out _).1 i.property)).cell c1
        have g3 : ∀ i : { w' // U w' }, i.val.cell? ⟨wm.heap.size, 0, none⟩ = some (V op) := fun i => (HBx.out.more ((HU.out _).1 i.property)).cell rfl
        have g4 : ∀ i : { w' // U w' }, i.val.cell? ⟨wm.heap.size, 1, none⟩ = some (V a) := fun i => (HBx.out.more ((HU.out _).1 i.property)).cell rfl
        have g5 : ∀ i : { w' // U w' }, i.val.cell? ⟨wm.heap.size, 2, none⟩ = some (V b) := fun i => (HBx.out.more ((HU.out _).1 i.property)).cell rfl
        have g6 : ∀ i : { w' // U w' }, i.val.cell? ⟨wm.heap.size, 3, none⟩ = some (V ic) := fun i => (HBx.out.more ((HU.out _).1 i.property)).cell rfl
        have g7 : ∀ i : { w' // U w' }, i.val.cell? ⟨wm.heap.size, 4, none⟩ = some (V n) := fun i => (HBx.out.more ((HU.out _).1 i.property)).cell rfl
        go_wp2_with (fail)
        refine J03 (S := U) [(0, true), (1, true), (2, true), (3, true), (4, true), (5, true), (6, true), (7, false)] (by kernel_rfl) (by kernel_rfl) (by kernel_rfl) HU0 ?_
        iterate 7 (refine J00 rfl (by kernel_rfl) (fun K hK => ?_); go_simp; refine hK _ _ ?_; clear hK K)
        refine J02 rfl (by kernel_rfl) (fun K hK => ?_); go_simp;refine (Csec.out _ (HMx.out.drew)).mono ?_;rintro e w9 ⟨rfl, m9⟩;have HM9 : Hid (More w3 w9) := (More.refl _).drew.trans m9;have HU9 : U w9 := (HU.out _).2 HM9.out;clear m9;cases sc with
        | true =>
         have Hck : Hid (J09 p L = (5, (k : Int))) := by
          show _ = _;have hf : J0p p k s = 5 := by unfold J0p; rw [Hno.out, Hsc2.out]; rfl
          rw [Hn2.out, hf]; rfl
         go_simp
         refine hK _ _ HU9 ?_; clear hK K;refine J04 ?_;clear g0 g1 g2 g3 g4 g5 g6 g7 hneU HU0 HU9;have t0 := (HRES.out.more ((HMm.out.trans HMx.out).trans HM9.out)).cell (j := 0) (v := V 0) rfl;have t1 := (HRES.out.more ((HMm.out.trans HMx.out).trans HM9.out)).cell (j := 1) (v := V 0) rfl;have u0 := (HRES.out.more ((HMm.out.trans HMx.out).trans HM9.out)).frozen 0;have u1 := (HRES.out.more ((HMm.out.trans HMx.out).trans HM9.out)).frozen 1;go_wp2;refine bodyPost_ret (v := flt 5 k) (by simp [flt, results, Tryz.results4, go_sem, *]) rfl ?_;have hE := HP.out L HV2.out.2 _ (((HM0.out.trans ((HMm.out.trans HMx.out).trans HM9.out)).setCell (a := ⟨w.heap.size + 1, 0, none⟩) (by dsimp only; omega) (V 5)).setCell (a := ⟨w.heap.size + 1, 1, none⟩) (by dsimp only; omega) (V k));rw [Hck.out] at hE;exact hE
        | false =>
         have Hck : Hid (J09 p L = scanK p L g (k + 1)) := by
          show _ = _;have hf : J0p p k s = 0 := by unfold J0p; rw [Hno.out, Hsc2.out]; rfl
          rw [Hn2.out, if_pos hf]
         go_simp
         refine hK _ _ HU9 ?_; clear hK K;refine J04 ?_;clear g0 g1 g2 g3 g4 g5 g6 g7 hneU HU0 HU9;go_wp2;go_roundg g
         case measure => omega
         case rel => exact ⟨k + 1, by omega, by first | rfl | simp, (HMw.out.trans HMx.out).trans HM9.out, Hck.out⟩
theorem Jan (p : Prg) (l : Loc) (w : World) (hp : PIn w p l) (hf : p.Fit) :
  Calls Tryz.prog 4 #[.agg #[.slice l.ra p.rl l.rc, .slice l.ca p.cl l.cc]] w fun e w' => ∃ f : Int × Int, Told p f /\ e = .returned (.agg #[V f.1, V f.2]) /\ More w w' := by
 by_cases hok : p.Ok 200 8
 ·refine (Je9 p l w hp hok (fun i hi => (hf.ins i hi).2.2.2.2) (fun w1 m1 => Jhw p l w1 (hp.more m1) hok)).mono ?_
  rintro e w' ⟨l', h1, rfl, m⟩;exact ⟨_, .inr ⟨hok, l', h1, rfl⟩, rfl, m⟩
 ·refine (Jam _ _ ⟨_, _, _, rfl⟩ ⟨_, _, _, rfl⟩ w (fun w2 m2 => ?_)).mono (fun e w' ⟨h1, h2⟩ => ⟨(2, 0), .inl ⟨hok, rfl⟩, h1, h2⟩)
  refine (Jfk p l _ (hp.more m2)).mono ?_;rintro e w' ⟨r, rfl, hr, m⟩;cases r with
  | false => exact ⟨rfl, m⟩
  | true => exact absurd (hr.1 rfl) hok
def Makes (F : Nat) (p : Prg) (l : Loc) (Q : Prg -> Prop) (w : World) : Prop :=
 Calls Tryz.prog F #[.agg #[.slice l.ra p.rl l.rc, .slice l.ca p.cl l.cc]] w fun e w' => ∃ (h : Prg) (lh : Loc), Q h /\ PIn w' h lh /\ e = .returned (.tuple #[.agg #[.slice lh.ra h.rl lh.rc, .slice lh.ca h.cl lh.cc], .agg #[V 0, V 0]]) /\ More w w'
structure Like8 (p h : Prg) : Prop where
 ok : h.Ok 8000 10
 fit : h.Fit
 rl : p.rl = h.rl
 reg : ∀ i, i < p.rl -> p.log i = h.log i /\ p.sec i = h.sec i
theorem Like8.fits {p h : Prg} (k : Like8 p h) {ml : Nat} {len : Nat -> Nat} (hf : J0t p.rl p.log ml len) : J0t h.rl h.log ml len :=
 ⟨k.ok.1, hf.2.1.trans k.rl, fun i hi => by rw [hf.2.2 i (by rw [k.rl]; exact hi), (k.reg i (by rw [k.rl]; exact hi)).1]⟩

def J8b (p h : Prg) (k top : Nat) : Prop := ∀ (m : Mem), J0t p.rl p.log m.ml m.len -> (∀ j, j < m.ml -> ∀ i, i < m.len j -> B64 (m.wd j i)) -> ∀ f : Nat, f <= top ->
 (playI p m f).fin = 0 \/ ((playI h m (k * f + k)).fin = (playI p m f).fin /\ (playI h m (k * f + k)).val = (playI p m f).val /\ (playI h m (k * f + k)).mem.Like (playI p m f).mem)
def Jc3 : Prop := ∀ (p : Prg) (l : Loc) (m m' : Mem) (ml ml' : MLoc) (sa : Option Addr) (sb so sn sc : Nat) (L : List Int) (fuel : Int) (w : World), PIn w p l -> p.Fit -> MRaw w m ml -> (∀ j, j < m.ml -> ∀ i, i < m.len j -> B64 (m.wd j i)) -> MRaw w m' ml' -> (∀ j, j < m'.ml -> ∀ i, i < m'.len j -> B64 (m'.wd j i)) -> L.length = sn -> sn <= sc -> SIn w sa sb so L ->
 Calls Tryz.prog 10 #[.agg #[.slice l.ra p.rl l.rc, .slice l.ca p.cl l.cc], .slice ml.ma m.ml ml.mc, .slice ml'.ma m'.ml ml'.mc, .slice sa sn sc, V fuel] w (Je2 p m m' L fuel w)

theorem J4j {h : Prg} {m m' : Mem} {L : List Int} {fuel k c : Int} {is : Bool} (z1 : Wr1 h m L fuel 0) (z2 : Wr1 h m' L fuel 0) (hF : J5j h m m' L fuel k is c) : c = 0 /\ Diff (playS h (flatM m) L fuel.toNat).seen (playS h (flatM m') L fuel.toNat).seen k is := by
 obtain ⟨c1, w1, g⟩ := hF;obtain rfl := Jge w1 z1;rcases g with ⟨a, _⟩ | ⟨_, c2, w2, g⟩
 ·exact absurd rfl a
 ·obtain rfl := Jge w2 z2
  rcases g with ⟨a, _⟩ | ⟨_, rfl, d⟩
  ·exact absurd rfl a
  ·exact ⟨rfl, d⟩
theorem Jd8 {p h : Prg} {m m' : Mem} {L : List Int} {fuel k c : Int} {is : Bool} (lk : Like8 p h) (s : Still h) (hf1 : J0t p.rl p.log m.ml m.len) (hf2 : J0t p.rl p.log m'.ml m'.len) (hpub : PubI p m m') (hwd : ∀ j, j < m.ml -> ∀ i, i < m.len j -> B64 (m.wd j i)) (hwd' : ∀ j, j < m'.ml -> ∀ i, i < m'.len j -> B64 (m'.wd j i)) (hsc : ScOk L) (f0 : 0 <= fuel) (f1 : fuel <= 4000)
  (hF : J5j h m m' L fuel k is c) : k = 0 /\ is = false /\ c = 0 := by
 obtain ⟨hc, d⟩ := J4j (.inr (.inr ⟨⟨lk.ok, lk.fits hf1⟩, by omega, hsc, rfl⟩)) (.inr (.inr ⟨⟨lk.ok, lk.fits hf2⟩, by omega, hsc, rfl⟩)) hF;obtain ⟨W, lab, I, hW, T, I0⟩ := s;have hpub' : PubI h m m' := fun c hc hs i hi => hpub c (by rw [lk.rl]; exact hc) (by rw [(lk.reg c (by rw [lk.rl]; exact hc)).2]; exact hs) i hi
 obtain ⟨_, _, _, q4, _⟩ := Jbx T I0 (flatM m) (flatM m') (Jie (lk.fits hf1) (lk.fits hf2) hpub') (fun n => hW _ (Jcg hwd n)) (fun n => hW _ (Jcg hwd' n)) L fuel.toNat;rw [q4] at d;have := J9c _ d;exact ⟨this.1, this.2, hc⟩

theorem J2e {w : World} {n : Nat} (h : w.heap.size = n) (cs : Array Value) (T : TypeId) : Blk (w.alloc (.cells cs T)) n cs T /\ (w.alloc (.cells cs T)).heap.size = n + 1 /\ More w (w.alloc (.cells cs T)) :=
 ⟨h ▸ Blk.last _ _ _, by simp [h], (More.refl _).alloc _ _⟩
def Jcs : Nat -> Ins
 | 0 => ⟨5, 0, 0, 0, 0⟩
 | 1 => ⟨8, 0, 1, 1, 2⟩
 | _ => ⟨9, 0, 0, 0, 0⟩
def oneP : Prg := ⟨1, fun _ => 0, fun _ => false, 3, Jcs⟩
def Jd1 : Nat -> Ins
 | 0 => ⟨5, 0, 0, 0, 0⟩
 | 1 => ⟨8, 0, 1, 1, 3⟩
 | 2 => ⟨12, 0, 0, 0, 0⟩
 | _ => ⟨9, 0, 0, 0, 0⟩
def twoP : Prg := ⟨1, fun _ => 0, fun _ => false, 4, Jd1⟩
def memV (v : Int) : Mem := ⟨1, fun _ => 1, fun _ _ => v⟩

theorem reg01 : J0h 1 (fun _ => 0) := ⟨by decide, fun i _ => ⟨by show (0 : Int) <= 0; decide, by show (0 : Int) <= 6; decide⟩⟩
theorem Jcd (v : Int) : J0t 1 (fun _ => 0) (memV v).ml (memV v).len := ⟨reg01, rfl, fun i _ => by show (1 : Int) = J0c 0; decide⟩
theorem Jjo : oneP.Ok 8000 10 := by
 refine ⟨reg01, by decide, by decide, fun i hi => ?_⟩;have : i = 0 \/ i = 1 \/ i = 2 := by have : i < 3 := hi; omega
 rcases this with rfl | rfl | rfl <;> (unfold oneP Jcs InsOk Reg Rgn Wrd Plc; simp [J0c])
theorem Jjv : twoP.Ok 8000 10 := by
 refine ⟨reg01, by decide, by decide, fun i hi => ?_⟩;have : i = 0 \/ i = 1 \/ i = 2 \/ i = 3 := by have : i < 4 := hi; omega
 rcases this with rfl | rfl | rfl | rfl <;> (unfold twoP Jd1 InsOk Reg Rgn Wrd Plc; simp [J0c])
theorem Jcy : ScOk [] := ⟨by decide, fun j c h => by simp at h⟩
theorem Jl7 : oneP.Fit := by
 refine ⟨by decide, by decide, fun i _ => by unfold I64 oneP; simp, fun i hi => ?_⟩;have : i = 0 \/ i = 1 \/ i = 2 := by have : i < 3 := hi; omega
 rcases this with rfl | rfl | rfl <;> (unfold oneP Jcs Ins.fits I64; simp)
theorem Jlx : twoP.Fit := by
 refine ⟨by decide, by decide, fun i _ => by unfold I64 twoP; simp, fun i hi => ?_⟩;have : i = 0 \/ i = 1 \/ i = 2 \/ i = 3 := by have : i < 4 := hi; omega
 rcases this with rfl | rfl | rfl | rfl <;> (unfold twoP Jd1 Ins.fits I64; simp)
theorem Jf5 {k c : Int} {is : Bool} (h : J5j oneP (memV 0) (memV 1) [] 9 k is c) : k = 0 /\ is = false /\ c = 0 := by
 obtain ⟨hc, d⟩ := J4j (.inr (.inr ⟨⟨Jjo, Jcd 0⟩, by omega, Jcy, rfl⟩)) (.inr (.inr ⟨⟨Jjo, Jcd 1⟩, by omega, Jcy, rfl⟩)) h;have e : (playS oneP (flatM (memV 0)) [] 9).seen = (playS oneP (flatM (memV 1)) [] 9).seen := by kernel_rfl
 rw [show (9 : Int).toNat = 9 from rfl, e] at d;have := J9c _ d;exact ⟨this.1, this.2, hc⟩
theorem Jga {k c : Int} {is : Bool} (h : J5j twoP (memV 0) (memV 1) [] 9 k is c) : k = 3 /\ is = true /\ c = 0 := by
 obtain ⟨hc, d⟩ := J4j (.inr (.inr ⟨⟨Jjv, Jcd 0⟩, by omega, Jcy, rfl⟩)) (.inr (.inr ⟨⟨Jjv, Jcd 1⟩, by omega, Jcy, rfl⟩)) h;have e0 : (playS twoP (flatM (memV 0)) [] 9).seen = [⟨1, 0, 0⟩, ⟨2, 0, 0⟩, ⟨1, 1, 0⟩, ⟨1, 3, 0⟩] := by kernel_rfl
 have e1 : (playS twoP (flatM (memV 1)) [] 9).seen = [⟨1, 0, 0⟩, ⟨2, 0, 0⟩, ⟨1, 1, 0⟩, ⟨1, 2, 0⟩, ⟨1, 3, 0⟩] := by kernel_rfl
 rw [show (9 : Int).toNat = 9 from rfl, e0, e1] at d
 have t : Diff [⟨1, 0, 0⟩, ⟨2, 0, 0⟩, ⟨1, 1, 0⟩, ⟨1, 3, 0⟩] [⟨1, 0, 0⟩, ⟨2, 0, 0⟩, ⟨1, 1, 0⟩, ⟨1, 2, 0⟩, ⟨1, 3, 0⟩] 3 true := by
  refine .inr ⟨3, rfl, rfl, fun j hj => ?_, by simp⟩;have : j = 0 \/ j = 1 \/ j = 2 := by omega
  rcases this with rfl | rfl | rfl <;> rfl
 have := Jgt d t;exact ⟨this.1, this.2, hc⟩

def oneC : Array Value := #[V 5, V 0, V 0, V 0, V 0, V 8, V 0, V 1, V 1, V 2, V 9, V 0, V 0, V 0, V 0]
def twoC : Array Value := #[V 5, V 0, V 0, V 0, V 0, V 8, V 0, V 1, V 1, V 3, V 12, V 0, V 0, V 0, V 0, V 9, V 0, V 0, V 0, V 0]
theorem Jcv {w : World} {g : Nat} {T : TypeId} (h : Blk w g #[V 0, .bool false] T) : RegsAt w g 0 1 (fun _ => 0) (fun _ => false) := fun i hi => by
 obtain rfl : i = 0 := by omega
 exact ⟨h.cell rfl, h.cell rfl⟩
theorem J8p {w : World} {a b : Nat} {v : Int} {T U : TypeId} (h : Blk w a #[V v] T) (k : Blk w b #[.slice (some ⟨a, 0, none⟩) 1 1] U) : MRaw w (memV v) ⟨some ⟨b, 0, none⟩, b, 0, 1, fun _ => some ⟨a, 0, none⟩, fun _ => 1, fun _ => a, fun _ => 0⟩ := by
 refine ⟨fun _ => rfl, fun i hi => ?_, fun i hi _ => rfl, fun i hi j hj => ?_⟩
 ·obtain rfl : i = 0 := by have : i < 1 := hi; omega
  exact k.cell rfl
 ·obtain rfl : j = 0 := by have : j < 1 := hj; omega
  exact h.cell rfl
theorem Jel (FI : Jc3) {w : World} {g c a a' b b' : Nat} {T1 T2 T3 T4 T5 T6 : TypeId} (hg : Blk w g #[V 0, .bool false] T1) (hc : Blk w c oneC T2) (ha : Blk w a #[V 0] T3) (ha' : Blk w a' #[.slice (some ⟨a, 0, none⟩) 1 1] T4) (hb : Blk w b #[V 1] T5) (hb' : Blk w b' #[.slice (some ⟨b, 0, none⟩) 1 1] T6) :
  Calls Tryz.prog 10 #[.agg #[.slice (some ⟨g, 0, none⟩) 1 1, .slice (some ⟨c, 0, none⟩) 3 3], .slice (some ⟨a', 0, none⟩) 1 1, .slice (some ⟨b', 0, none⟩) 1 1, .slice none 0 0, V 9] w fun e w' => e = .returned (.tuple #[V 0, .bool false, V 0]) /\ More w w' := by
 have code : CodeAt w c 0 3 Jcs := fun i hi => by
  have : i = 0 \/ i = 1 \/ i = 2 := by omega
  rcases this with rfl | rfl | rfl <;> exact ⟨hc.cell rfl, hc.cell rfl, hc.cell rfl, hc.cell rfl, hc.cell rfl⟩
 refine (FI oneP ⟨some ⟨g, 0, none⟩, g, 0, 1, some ⟨c, 0, none⟩, c, 0, 3⟩ (memV 0) (memV 1) _ _ none 0 0 0 0 [] 9 w ⟨fun _ => rfl, fun _ => rfl, Jcv hg, code⟩ Jl7 (J8p ha ha') (fun _ _ _ _ => by show B64 0; unfold B64; omega) (J8p hb hb') (fun _ _ _ _ => by show B64 1; unfold B64; omega) rfl (Nat.le_refl _) ⟨fun h => absurd h (by simp), fun j x h => by simp at h⟩).mono ?_;rintro e w' ⟨k, is, cc, rfl, hF, mm⟩;obtain ⟨rfl, rfl, rfl⟩ := Jf5 hF;exact ⟨rfl, mm⟩
theorem Jem (FI : Jc3) {w : World} {g c a a' b b' : Nat} {T1 T2 T3 T4 T5 T6 : TypeId} (hg : Blk w g #[V 0, .bool false] T1) (hc : Blk w c twoC T2) (ha : Blk w a #[V 0] T3) (ha' : Blk w a' #[.slice (some ⟨a, 0, none⟩) 1 1] T4) (hb : Blk w b #[V 1] T5) (hb' : Blk w b' #[.slice (some ⟨b, 0, none⟩) 1 1] T6) :
  Calls Tryz.prog 10 #[.agg #[.slice (some ⟨g, 0, none⟩) 1 1, .slice (some ⟨c, 0, none⟩) 4 4], .slice (some ⟨a', 0, none⟩) 1 1, .slice (some ⟨b', 0, none⟩) 1 1, .slice none 0 0, V 9] w fun e w' => e = .returned (.tuple #[V 3, .bool true, V 0]) /\ More w w' := by
 have code : CodeAt w c 0 4 Jd1 := fun i hi => by
  have : i = 0 \/ i = 1 \/ i = 2 \/ i = 3 := by omega
  rcases this with rfl | rfl | rfl | rfl <;> exact ⟨hc.cell rfl, hc.cell rfl, hc.cell rfl, hc.cell rfl, hc.cell rfl⟩
 refine (FI twoP ⟨some ⟨g, 0, none⟩, g, 0, 1, some ⟨c, 0, none⟩, c, 0, 4⟩ (memV 0) (memV 1) _ _ none 0 0 0 0 [] 9 w ⟨fun _ => rfl, fun _ => rfl, Jcv hg, code⟩ Jlx (J8p ha ha') (fun _ _ _ _ => by show B64 0; unfold B64; omega) (J8p hb hb') (fun _ _ _ _ => by show B64 1; unfold B64; omega) rfl (Nat.le_refl _) ⟨fun h => absurd h (by simp), fun j x h => by simp at h⟩).mono ?_;rintro e w' ⟨k, is, cc, rfl, hF, mm⟩;obtain ⟨rfl, rfl, rfl⟩ := Jga hF;exact ⟨rfl, mm⟩
theorem J9y (p : Prg) (lo : Loc) (x y : Mem) (l l' : MLoc) (w : World) (hp : PIn w p lo) (hx : MIn w x l) (hy : MIn w y l') (hlx : x.ml = p.rl) (hly : y.ml = p.rl) (hrl : p.rl <= 6) (hlen : ∀ c, c < p.rl -> x.len c = y.len c /\ x.len c <= 64) (hcv : ∃ a n c, (Value.slice lo.ca p.cl lo.cc) = .slice a n c) :
  Calls Tryz.prog 6 #[.agg #[.slice lo.ra p.rl lo.rc, .slice lo.ca p.cl lo.cc], .slice l.ma x.ml l.mc, .slice l'.ma y.ml l'.mc] w (Says (PubI p x y) w) := by
 obtain ⟨ma, mb, mo, mc, A, C, gb, go⟩ := l;obtain ⟨ma', mb', mo', mc', A', C', gb', go'⟩ := l';obtain ⟨ra, rb, ro, rc, ca, cb, co, cc⟩ := lo;have H : Hid (MIn w x ⟨ma, mb, mo, mc, A, C, gb, go⟩ /\ MIn w y ⟨ma', mb', mo', mc', A', C', gb', go'⟩ /\ ∀ c, c < p.rl -> x.len c = y.len c /\ x.len c <= 64) := ⟨hx, hy, hlen⟩;have HPn : Hid (PIn w p ⟨ra, rb, ro, rc, ca, cb, co, cc⟩) := hp;obtain ⟨P, HP⟩ : ∃ P : Prop, Hid (P ↔ PubI p x y) := ⟨PubI p x y, (Iff.rfl : _ ↔ _)⟩;rw [<- propext HP.out];clear hx hy hlen hp hcv;obtain ⟨n, hn⟩ : ∃ n, p.rl = n := ⟨_, rfl⟩;dsimp only;rw [hlx, hly, hn];rw [hn] at hrl;have Hn : Hid (p.rl = n /\ x.ml = n /\ y.ml = n) := ⟨hn, hlx.trans hn, hly.trans hn⟩;clear hn hlx hly;have hri : (n : Int) <= 6 := by omega
 obtain ⟨W, HW⟩ : ∃ W : World, Hid (W = w.alloc (.cells #[.slice ra n rc, .slice ca p.cl cc] 25)) := ⟨_, rfl⟩;have HmW : Hid (More w W) := HW.out ▸ (More.refl _).alloc _ _;have HB : Hid (Blk W w.heap.size #[.slice ra n rc, .slice ca p.cl cc] 25) := HW.out ▸ Blk.last _ _ _;go_enter Tryz.func6, Tryz.ntmps6;go_wp2_with (fail)
 rw [<- HW.out];go_loopg [7] n (fun q i wr => ∃ k : Nat, k + q = n /\ i = V k /\ Hid (More W wr /\ ∀ c, c < k -> p.sec c = false -> ∀ i, i < x.len c -> x.wd c i = y.wd c i))
 case atStart => exact ⟨0, by omega, rfl, More.refl _, fun c hc => absurd hc (Nat.not_lt_zero _)⟩
 case round =>
  obtain ⟨k, hkg, rfl, HR⟩ := hrel;have b0 : wr.cell? ⟨w.heap.size, 0, none⟩ = some (.slice ra n rc) := (HB.out.more HR.out.1).cell rfl;cases gk with
  | zero =>
   obtain rfl : k = n := by omega
   go_wp2;go_ret;exact Says.yes (HP.out.2 (fun c hc => HR.out.2 c (by rw [<- Hn.out.1]; exact hc))) (HmW.out.trans HR.out.1)
  | succ q =>
   have hk : k < n := by omega
   have hk' : (k : Int) < (n : Int) := by omega
   have Hk : Hid (k < x.ml /\ k < y.ml /\ k < p.rl) := ⟨by rw [Hn.out.2.1]; exact hk, by rw [Hn.out.2.2]; exact hk, by rw [Hn.out.1]; exact hk⟩;obtain rfl : ra = some ⟨rb, ro, none⟩ := HPn.out.hr (by have := Hk.out; omega);have r0 := (HmW.out.trans HR.out.1).cell (HPn.out.regs k Hk.out.2.2).2;dsimp only at r0;cases hs : p.sec k with
   | true =>
    rw [hs] at r0;have Hs : Hid (p.sec k = true) := hs;clear hs;go_wp2;go_roundg q
    case measure => omega
    case rel =>
     refine ⟨k + 1, by omega, by first | rfl | simp, HR.out.1, fun c hc hsc => ?_⟩;by_cases e : c = k
     ·subst e; rw [Hs.out] at hsc; cases hsc
     ·exact HR.out.2 c (by omega) hsc
   | false =>
    rw [hs] at r0;have Hse : Hid (p.sec k = false) := hs;clear hs;obtain rfl : ma = some ⟨mb, mo, none⟩ := H.out.1.hm (by have := Hk.out.1; omega);obtain rfl : ma' = some ⟨mb', mo', none⟩ := H.out.2.1.hm (by have := Hk.out.2.1; omega);have q1 := H.out.1.lists k Hk.out.1;have q2 := H.out.2.1.lists k Hk.out.2.1;dsimp only at q1 q2;rw [<- (H.out.2.2 k Hk.out.2.2).1] at q2;obtain ⟨r, hr⟩ : ∃ r, x.len k = r := ⟨_, rfl⟩;rw [hr] at q1 q2;have hr64 : r <= 64 := by rw [<- hr]; exact (H.out.2.2 k Hk.out.2.2).2
    have hri2 : (r : Int) <= 64 := by omega
    have HRr : Hid (x.len k = r /\ y.len k = r) := ⟨hr, by rw [<- (H.out.2.2 k Hk.out.2.2).1]; exact hr⟩;clear hr;have Ha : Hid (0 < r -> A k = some ⟨gb k, go k, none⟩) := fun h => H.out.1.hg k Hk.out.1 (by rw [HRr.out.1]; exact h)
    have Ha' : Hid (0 < r -> A' k = some ⟨gb' k, go' k, none⟩) := fun h => H.out.2.1.hg k Hk.out.2.1 (by rw [HRr.out.2]; exact h)
    obtain ⟨Ak, hA⟩ : ∃ z, A k = z := ⟨_, rfl⟩;obtain ⟨Ak', hA'⟩ : ∃ z, A' k = z := ⟨_, rfl⟩;rw [hA] at q1 Ha;rw [hA'] at q2 Ha';clear hA hA';have Hq : Hid (w.cell? ⟨mb, mo + k, none⟩ = some (.slice Ak r (C k)) /\ w.cell? ⟨mb', mo' + k, none⟩ = some (.slice Ak' r (C' k))) := ⟨q1, q2⟩;clear q1 q2;obtain ⟨wm, rfl⟩ : ∃ wm, wm = wr := ⟨wr, rfl⟩;go_wp2_with (fail)
    go_loopg [8] r (fun g i wq => ∃ j : Nat, j + g = r /\ i = V j /\ Hid (More wm wq /\ ∀ i, i < j -> x.wd k i = y.wd k i))
    case atStart => exact ⟨0, by omega, rfl, More.refl _, fun i hi => absurd hi (Nat.not_lt_zero _)⟩
    case round =>
     obtain ⟨j, hjg, rfl, HQ⟩ := hrel;have Hmq : Hid (More w wr) := (HmW.out.trans HR.out.1).trans HQ.out.1;have q1 := Hmq.out.cell Hq.out.1;have q2 := Hmq.out.cell Hq.out.2;cases gk with
     | zero =>
      obtain rfl : j = r := by omega
      go_wp2;go_roundg q
      case measure => omega
      case rel =>
       refine ⟨k + 1, by omega, by first | rfl | simp, HR.out.1.trans HQ.out.1, fun c hc hsc => ?_⟩;by_cases e : c = k
       ·subst e; rw [HRr.out.1]; exact HQ.out.2
       ·exact HR.out.2 c (by omega) hsc
     | succ g =>
      have hj : j < r := by omega
      have hj' : (j : Int) < (r : Int) := by omega
      obtain rfl := Ha.out (by omega);obtain rfl := Ha'.out (by omega);have p1 := Hmq.out.cell (H.out.1.words k Hk.out.1 j (by rw [HRr.out.1]; exact hj));have p2 := Hmq.out.cell (H.out.2.1.words k Hk.out.2.1 j (by rw [HRr.out.2]; exact hj));dsimp only at p1 p2;obtain ⟨z, hz⟩ : ∃ z, x.wd k j = z := ⟨_, rfl⟩;obtain ⟨z', hz'⟩ : ∃ z, y.wd k j = z := ⟨_, rfl⟩;rw [hz] at p1;rw [hz'] at p2;have Hz : Hid (x.wd k j = z /\ y.wd k j = z') := ⟨hz, hz'⟩;clear hz hz';obtain ⟨S, HS⟩ : ∃ S : World -> Prop, Hid (∀ w', S w' ↔ More wr w') := ⟨fun w' => More wr w', fun _ => Iff.rfl⟩;have k0 : ∀ i : { w' // S w' }, i.val.cell? ⟨mb, mo + k, none⟩ = some (.slice (some ⟨gb k, go k, none⟩) r (C k)) := fun i => ((HS.out _).1 i.property).cell q1
      have k1 : ∀ i : { w' // S w' }, i.val.cell? ⟨mb', mo' + k, none⟩ = some (.slice (some ⟨gb' k, go' k, none⟩) r (C' k)) := fun i => ((HS.out _).1 i.property).cell q2
      have k2 : ∀ i : { w' // S w' }, i.val.cell? ⟨gb k, go k + j, none⟩ = some (V z) := fun i => ((HS.out _).1 i.property).cell p1
      have k3 : ∀ i : { w' // S w' }, i.val.cell? ⟨gb' k, go' k + j, none⟩ = some (V z') := fun i => ((HS.out _).1 i.property).cell p2
      have hne : Nonempty { w' // S w' } := ⟨⟨wr, (HS.out _).2 (More.refl _)⟩⟩;go_wp2_with (fail)
      refine J03 (S := S) [(0, true), (1, true), (2, true), (3, true), (4, true), (5, true), (6, true), (7, true), (8, true), (9, true), (10, true), (11, true), (12, true), (13, true), (14, true)] (by kernel_rfl) (by kernel_rfl) (by kernel_rfl) ((HS.out _).2 (More.refl _).drew) ?_
      iterate 15 (refine J00 rfl (by kernel_rfl) (fun K hK => ?_); go_simp; refine hK _ _ ?_; clear hK K)
      refine J04 ?_;clear k0 k1 k2 k3 hne p1 p2 q1 q2;by_cases e : z = z'
      ·have e1 : (z != z') = false := by simp [e]
       have He : Hid (x.wd k j = y.wd k j) := by show _ = _; rw [Hz.out.1, Hz.out.2]; exact e
       clear e;go_wp2;go_roundg g
       case measure => omega
       case rel =>
        refine ⟨j + 1, by omega, by first | rfl | simp, HQ.out.1.drew, fun i hi => ?_⟩;by_cases q : i = j
        ·subst q; exact He.out
        ·exact HQ.out.2 i (by omega)
      ·have e1 : (z != z') = true := by simp [e]
       have He : Hid (¬ x.wd k j = y.wd k j) := by show ¬ _; rw [Hz.out.1, Hz.out.2]; exact e
       clear e;go_wp2;go_ret;exact Says.no (fun h => He.out ((HP.out.1 h) k Hk.out.2.2 Hse.out j (by rw [HRr.out.1]; exact hj))) Hmq.out.drew
theorem Jbg (p : Prg) (lo : Loc) (x y : Mem) (l l' : MLoc) (w : World) (hp : PIn w p lo) (hx : MIn w x l) (hy : MIn w y l') (hlx : x.ml = p.rl) (hly : y.ml = p.rl) (hrl : p.rl <= 6) (hlen : ∀ c, c < p.rl -> x.len c = y.len c /\ x.len c <= 64) (r : Bool) (hr : r = true ↔ PubI p x y) :
  Calls Tryz.prog 6 #[.agg #[.slice lo.ra p.rl lo.rc, .slice lo.ca p.cl lo.cc], .slice l.ma x.ml l.mc, .slice l'.ma y.ml l'.mc] w fun e w' => e = .returned (.bool r) /\ More w w' := by
 refine (J9y p lo x y l l' w hp hx hy hlx hly hrl hlen ⟨_, _, _, rfl⟩).mono ?_;rintro e w' ⟨q, rfl, hq, mm⟩;have : q = r := Bool.eq_iff_iff.2 (hq.trans hr.symm);rw [this];exact ⟨rfl, mm⟩
end
end Go.Proofs.YtapagihngaiebaaGreat
