/-
  The texts CkStates, CkSecret, CkCheck, RefSame, R8, HdLaw, CkQuiet, CkPublic, one behind the other, with what is used of them.
-/
import Derived.Test.YtmpafeoileonjaaJoined6
import Derived.Test.YtmpafeoileonjaaJoined1
import Derived.Deep.OwnRows
import Derived.Test.YtmpafeoileonjaaJoined0
import Derived.Test.YtmpafeoileonjaaJoined5
import Derived.Test.YtmpafeoileonjaaRows
import Derived.WalkKit
import Derived.Deep.LoopGhost
import Derived.Test.YtmpafeoileonjaaProg
namespace Go.Proofs.Ytmpafeoileonjaa
section
open Go.RowKit
set_option linter.unusedSimpArgs false
set_option linter.unusedVariables false
set_option maxRecDepth 8000
theorem J99 {P : Program} (t e : TypeId) (z0 z1 : Value) (bytes : Nat) (ht : P.underlying t = some (.slice e)) (hinfo : (P.info? e).map (fun i => (i.zero, i.size, i.bytes)) = some (some (.agg #[z0, z1]), 2, bytes))
  (kl kc : IntKind) (n : Nat) (hbytes : bytes * n ≤ 281474976710656) (h63 : n ≤ 9223372036854775807) (w : World) :
  (Instr.makeSlice t (.int kl (n : Int)) (.int kc (n : Int))).run P w = .ok (.slice (some ⟨w.heap.size, 0, none⟩) n n) (w.alloc (.cells (madeCells #[z0, z1] (n * 2)) e)) := by
 obtain ⟨i, hi, hzz⟩ := Option.map_eq_some_iff.1 hinfo
 simp only [Prod.mk.injEq] at hzz
 obtain ⟨hz, hs, hb⟩ := hzz
 have hb' : (i.bytes : Int) * (n : Int) ≤ 281474976710656 := by
  have h : ((i.bytes * n : Nat) : Int) ≤ 281474976710656 := by rw [hb]; omega
  rwa [Int.natCast_mul] at h
 have hr := run_make (P := P) w t e i (.agg #[z0, z1]) ht hi hz kl kc n n (by omega) (Int.le_refl _) hb' (by omega)
 simp only [Int.toNat_natCast, hs] at hr
 exact hr
theorem Jb7 (z0 z1 : Value) (n k : Nat) (h : k < n) : (madeCells #[z0, z1] (n * 2))[k * 2]? = some z0 ∧ (madeCells #[z0, z1] (n * 2))[k * 2 + 1]? = some z1 := by
 unfold madeCells
 refine ⟨?_, ?_⟩
 ·simp [show k * 2 < n * 2 by omega]
 ·simp [show k * 2 + 1 < n * 2 by omega, show (k * 2 + 1) % 2 = 1 by omega]

theorem Jk3 : (Try.prog.info? 57).map (fun i => (i.zero, i.size, i.bytes)) = some (some (.agg #[.bool false, .slice none 0 0]), 2, 32) := by kernel_rfl

structure Rnd (w0 : World) (p : Prg) (lo : Loc) (lb : Nat) (l : KV) (w : World) : Prop where
 v : VAt w lb p.cl l
 on : OnWay p l
 box : Blk w w0.heap.size #[.slice lo.ra p.rl lo.rc, .slice lo.ca p.cl lo.cc] 25
 pin : PIn w p lo
 more : More w0 w
theorem Rnd.step {w0 : World} {p : Prg} {lo : Loc} {lb : Nat} {l : KV} {w w' : World} (h0 : 0 < p.cl) (h : Rnd w0 p lo lb l w) (m : More w w') : Rnd w0 p lo lb l w' :=
 ⟨h.v.more m h0, h.on, h.box.more m, h.pin.more m, h.more.trans m⟩

theorem Jec {w : World} {p : Prg} {lo : Loc} (hp : PIn w p lo) (h0 : 0 < p.cl) {zs zk : Array Value} (Hzs : ∀ k, k < p.cl → zs[k * 2]? = some (.bool false) ∧ zs[k * 2 + 1]? = some (.slice none 0 0)) (Hzk : ∀ k, k < 8 → zk[k * 2]? = some (.int .i64 0) ∧ zk[k * 2 + 1]? = some (.bool false)) :
  Rnd w p lo (w.heap.size + 1) (putV (fun _ => none) 0 zeroK) (((w.alloc (.cells #[.slice lo.ra p.rl lo.rc, .slice lo.ca p.cl lo.cc] 25)).alloc (.cells ((zs.setIfInBounds 0 (.bool true)).setIfInBounds 1 (.slice (some ⟨w.heap.size + 1 + 1, 0, none⟩) 8 8)) 57)).alloc (.cells zk 65)) := by
 have e0 := (Blk.last w #[.slice lo.ra p.rl lo.rc, .slice lo.ca p.cl lo.cc] 25).more (((More.refl _).alloc ((zs.setIfInBounds 0 (.bool true)).setIfInBounds 1 (.slice (some ⟨w.heap.size + 1 + 1, 0, none⟩) 8 8)) 57).alloc zk 65)
 have e1 := (by simpa using Blk.last (w.alloc (.cells #[.slice lo.ra p.rl lo.rc, .slice lo.ca p.cl lo.cc] 25)) ((zs.setIfInBounds 0 (.bool true)).setIfInBounds 1 (.slice (some ⟨w.heap.size + 1 + 1, 0, none⟩) 8 8)) 57 : Blk ((w.alloc (.cells #[.slice lo.ra p.rl lo.rc, .slice lo.ca p.cl lo.cc] 25)).alloc (.cells ((zs.setIfInBounds 0 (.bool true)).setIfInBounds 1 (.slice (some ⟨w.heap.size + 1 + 1, 0, none⟩) 8 8)) 57)) (w.heap.size + 1) ((zs.setIfInBounds 0 (.bool true)).setIfInBounds 1 (.slice (some ⟨w.heap.size + 1 + 1, 0, none⟩) 8 8)) 57).more ((More.refl _).alloc zk 65)
 have e2 := (by simpa using Blk.last ((w.alloc (.cells #[.slice lo.ra p.rl lo.rc, .slice lo.ca p.cl lo.cc] 25)).alloc (.cells ((zs.setIfInBounds 0 (.bool true)).setIfInBounds 1 (.slice (some ⟨w.heap.size + 1 + 1, 0, none⟩) 8 8)) 57)) zk 65 : Blk (((w.alloc (.cells #[.slice lo.ra p.rl lo.rc, .slice lo.ca p.cl lo.cc] 25)).alloc (.cells ((zs.setIfInBounds 0 (.bool true)).setIfInBounds 1 (.slice (some ⟨w.heap.size + 1 + 1, 0, none⟩) 8 8)) 57)).alloc (.cells zk 65)) (w.heap.size + 1 + 1) zk 65)
 have m0 := (((More.refl w).alloc #[.slice lo.ra p.rl lo.rc, .slice lo.ca p.cl lo.cc] 25).alloc ((zs.setIfInBounds 0 (.bool true)).setIfInBounds 1 (.slice (some ⟨w.heap.size + 1 + 1, 0, none⟩) 8 8)) 57).alloc zk 65
 have hz0 := Hzs 0 h0
 have hs : 1 < zs.size := by
  have := hz0.2
  rcases Nat.lt_or_ge 1 zs.size with h | h
  ·exact h
  ·rw [Array.getElem?_eq_none (by omega)] at this; cases this
 refine ⟨⟨fun k hk => ?_, fun j => e1.frozen j⟩, OnWay.start h0, e0, hp.more m0, m0⟩
 by_cases e : k = 0
 ·subst e
  rw [J18]
  refine ⟨w.heap.size + 1 + 1, 8, e1.cell ?_, e1.cell ?_, fun j hj => ⟨⟨e2.cell (Hzk j hj).1, e2.cell (Hzk j hj).2⟩, e2.frozen _, e2.frozen _⟩, by omega⟩
  ·rw [Array.getElem?_setIfInBounds_ne (by omega), Array.getElem?_setIfInBounds_self_of_lt (by omega)]
  ·rw [Array.getElem?_setIfInBounds_self_of_lt (by simp; omega)]
 ·rw [J16 _ e]
  have := Hzs k hk
  refine ⟨e1.cell ?_, e1.cell ?_⟩
  ·rw [Array.getElem?_setIfInBounds_ne (by omega), Array.getElem?_setIfInBounds_ne (by omega)]; exact this.1
  ·rw [Array.getElem?_setIfInBounds_ne (by omega), Array.getElem?_setIfInBounds_ne (by omega)]; exact this.2

structure OAt (w : World) (b : Bool) (a : Option Addr) (n c : Nat) (o : Option KS) : Prop where
 out : (o = none ∧ b = false ∧ a = none ∧ n = 0 ∧ c = 0) ∨ ∃ s g, o = some s ∧ b = true ∧ a = some ⟨g, 0, none⟩ ∧ n = 8 ∧ KRow w g s
theorem OAt.more {w w' : World} (m : More w w') {b : Bool} {a : Option Addr} {n c : Nat} {o : Option KS} (h : OAt w b a n c o) : OAt w' b a n c o := by
 rcases h.out with h | ⟨s, g, h1, h2, h3, h4, h5⟩
 ·exact ⟨.inl h⟩
 ·exact ⟨.inr ⟨s, g, h1, h2, h3, h4, h5.more m⟩⟩
theorem CAt.oat {w : World} {lb k : Nat} {o : Option KS} (h : CAt w lb k o) : ∃ b a n c, w.cell? ⟨lb, k * 2, none⟩ = some (.bool b) ∧ w.cell? ⟨lb, k * 2 + 1, none⟩ = some (.slice a n c) ∧ OAt w b a n c o := by
 cases o with
 | none => exact ⟨false, none, 0, 0, h.1, h.2, ⟨.inl ⟨rfl, rfl, rfl, rfl, rfl⟩⟩⟩
 | some s =>
  obtain ⟨g, c, h1, h2, h3, _⟩ := h
  exact ⟨true, some ⟨g, 0, none⟩, 8, c, h1, h2, ⟨.inr ⟨s, g, rfl, rfl, rfl, rfl, h3⟩⟩⟩

theorem Jb4 (b : Bool) (a : Option Addr) (n c g cg : Nat) (o : Option KS) (t : KS) (w : World) (h : OAt w b a n c o) (ht : KRow w g t) :
  Calls Try.prog 46 #[.agg #[.bool b, .slice a n c], st true g cg] w fun e w' => ∃ g' c', e = .returned (st true g' c') ∧ w.heap.size ≤ g' ∧ KRow w' g' (joinV o t) ∧ More w w' := by
 rcases h.out with ⟨rfl, rfl, rfl, rfl, rfl⟩ | ⟨s, ga, rfl, rfl, rfl, rfl, hs⟩
 ·exact Jde _ ⟨_, _, _, rfl⟩ true g cg t w ht
 ·exact Jdf true true ga c g cg s t w hs ht rfl
theorem Jbg (b : Bool) (a : Option Addr) (n c g cg : Nat) (o : Option KS) (t : KS) (w : World) (h : OAt w b a n c o) (ht : KRow w g t) :
  Calls Try.prog 47 #[st true g cg, .agg #[.bool b, .slice a n c]] w (Says (SameV t o) w) := by
 rcases h.out with ⟨rfl, rfl, rfl, rfl, rfl⟩ | ⟨s, ga, rfl, rfl, rfl, rfl, hs⟩
 ·refine (Jef g cg w).mono ?_
  rintro e w' ⟨rfl, m⟩
  exact Says.no (fun ⟨u, e, _⟩ => by cases e) m
 ·refine (Jeg g cg ga c t s w ht hs).mono ?_
  rintro e w' ⟨r, rfl, hr, m⟩
  refine ⟨r, rfl, hr.trans ⟨fun q => ⟨s, rfl, q⟩, fun ⟨u, e, q⟩ => ?_⟩, m⟩
  cases e; exact q

set_option maxHeartbeats 4000000 in
theorem J9g (p : Prg) (lo : Loc) (w : World) (hp : PIn w p lo) (hok : p.Ok 200 8) (hn : ∀ i, i < p.cl → -9223372036854775808 ≤ (p.ins i).n ∧ (p.ins i).n ≤ 9223372036854775807) :
  Calls Try.prog 23 #[.agg #[.slice lo.ra p.rl lo.rc, .slice lo.ca p.cl lo.cc]] w fun e w' => ∃ lb l, e = .returned (.slice (some ⟨lb, 0, none⟩) p.cl p.cl) ∧ VAt w' lb p.cl l ∧ Known p l ∧ More w w' := by
 suffices hP : ∀ P : Ending → World → Prop, (∀ lb l w', VAt w' lb p.cl l → Known p l → More w w' → P (.returned (.slice (some ⟨lb, 0, none⟩) p.cl p.cl)) w') → Calls Try.prog 23 #[.agg #[.slice lo.ra p.rl lo.rc, .slice lo.ca p.cl lo.cc]] w P from hP _ (fun lb l w' h1 h2 h3 => ⟨lb, l, rfl, h1, h2, h3⟩)
 intro P hP0
 have HP : Hid (∀ lb l w', VAt w' lb p.cl l → Known p l → More w w' → P (.returned (.slice (some ⟨lb, 0, none⟩) p.cl p.cl)) w') := hP0
 have H : Hid (PIn w p lo ∧ p.Ok 200 8 ∧ ∀ i, i < p.cl → -9223372036854775808 ≤ (p.ins i).n ∧ (p.ins i).n ≤ 9223372036854775807) := ⟨hp, hok, hn⟩
 have h1 : 1 ≤ p.cl := hok.2.1
 have h2 : p.cl ≤ 200 := hok.2.2.1
 have hi1 : (1 : Int) ≤ p.cl := by omega
 have hi2 : (p.cl : Int) ≤ 200 := by omega
 clear hP0 hp hok hn
 obtain ⟨cl, hcl⟩ : ∃ cl, p.cl = cl := ⟨_, rfl⟩
 have Hcl : Hid (p.cl = cl) := hcl
 rw [hcl] at h1 h2 hi1 hi2 ⊢
 clear hcl
 have hmk := J99 (P := Try.prog) 53 57 (.bool false) (.slice none 0 0) 32 Try.underlying53 Jk3 .i64 .i64 cl (by omega) (by omega)
 have hmk2 := J99 (P := Try.prog) 55 65 (.int .i64 0) (.bool false) 16 Try.underlying55 Jht .i64 .i64 8 (by omega) (by omega)
 push_cast at hmk2
 obtain ⟨zs, hzs⟩ : ∃ z, madeCells #[.bool false, .slice none 0 0] (cl * 2) = z := ⟨_, rfl⟩
 obtain ⟨zk, hzk⟩ : ∃ z, madeCells #[.int .i64 0, .bool false] (8 * 2) = z := ⟨_, rfl⟩
 have Hzs : Hid (∀ k, k < cl → zs[k * 2]? = some (.bool false) ∧ zs[k * 2 + 1]? = some (.slice none 0 0)) := fun k hk => hzs ▸ Jb7 _ _ _ _ hk
 have Hzk : Hid (∀ k, k < 8 → zk[k * 2]? = some (.int .i64 0) ∧ zk[k * 2 + 1]? = some (.bool false)) := fun k hk => hzk ▸ Jb7 _ _ _ _ hk
 rw [hzs] at hmk
 rw [hzk] at hmk2
 clear hzs hzk
 have z0 : zs[0]? = some (.bool false) := by have := (Hzs.out 0 (by omega)).1; simpa using this
 have z1 : zs[1]? = some (.slice none 0 0) := by have := (Hzs.out 0 (by omega)).2; simpa using this
 obtain ⟨ra, rb, ro, rc, ca, cb, co, cc⟩ := lo
 dsimp only at *
 obtain ⟨W0, HW0⟩ : ∃ W0 : World, Hid (W0 = ((w.alloc (.cells #[.slice ra p.rl rc, .slice ca cl cc] 25)).alloc (.cells ((zs.setIfInBounds 0 (.bool true)).setIfInBounds 1 (.slice (some ⟨w.heap.size + 1 + 1, 0, none⟩) 8 8)) 57)).alloc (.cells zk 65)) := ⟨_, rfl⟩
 have HR0 : Hid (Rnd w p ⟨ra, rb, ro, rc, ca, cb, co, cc⟩ (w.heap.size + 1) (putV (fun _ => none) 0 zeroK) W0) := by
  have := Jec (zs := zs) (zk := zk) H.out.1 (by have := Hcl.out; omega) (by rw [Hcl.out]; exact Hzs.out) Hzk.out
  dsimp only at this
  rw [Hcl.out] at this
  rw [HW0.out]; exact this
 go_enter Try.func23, Try.ntmps23
 go_wp2_with (fail)
 rw [← HW0.out]
 clear hmk hmk2 z0 z1
 go_loopg [4] (145 * cl + 1) (fun g av wr => ∃ (b : Bool) (L : KV), av = .bool b ∧ Hid (Rnd w p ⟨ra, rb, ro, rc, ca, cb, co, cc⟩ (w.heap.size + 1) L wr ∧ (b = false → ∀ k, k < p.cl → Held p L k) ∧ (b = true → 145 * cl < rankV L p.cl + g)))
 case atStart => exact ⟨true, _, rfl, HR0.out, fun h => absurd h (by simp), fun _ => by omega⟩
 case round =>
  obtain ⟨b, L, rfl, HL⟩ := hrel
  cases b with
  | false =>
   have HE : Hid (VAt wr (w.heap.size + 1) p.cl L ∧ Known p L ∧ More w wr) := ⟨HL.out.1.v, HL.out.1.on.known (fun k s hk e => HL.out.2.1 rfl k hk s e), HL.out.1.more⟩
   clear HL
   go_wp2
   have hE := HP.out _ L _ HE.out.1 HE.out.2.1 HE.out.2.2
   rw [Hcl.out] at hE
   exact hE
  | true =>
   cases gk with
   | zero =>
    have q := HL.out.2.2 rfl
    have q2 := J5o HL.out.1.on.norm p.cl (Nat.le_refl _)
    rw [Hcl.out] at q q2
    omega
   | succ g =>
    have HQ : Hid (145 * cl < rankV L p.cl + (g + 1)) := HL.out.2.2 rfl
    have HR : Hid (Rnd w p ⟨ra, rb, ro, rc, ca, cb, co, cc⟩ (w.heap.size + 1) L wr) := HL.out.1
    clear HL
    go_wp2_with (fail)
    go_loopg [4, 5] cl (fun g2 av iv wr2 => ∃ (k : Nat) (b : Bool) (L2 : KV), k + g2 = cl ∧ iv = .int .i64 k ∧ av = .bool b ∧ Hid (Rnd w p ⟨ra, rb, ro, rc, ca, cb, co, cc⟩ (w.heap.size + 1) L2 wr2 ∧ (b = false → ∀ j, j < k → Held p L2 j) ∧ rankV L p.cl ≤ rankV L2 p.cl ∧ (b = true → rankV L p.cl < rankV L2 p.cl)))
    case atStart => exact ⟨0, false, L, by omega, rfl, rfl, HR.out, fun _ j hj => absurd hj (Nat.not_lt_zero _), Nat.le_refl _, fun h => absurd h (by simp)⟩
    case round =>
     obtain ⟨k, b2, L2, hkg, rfl, rfl, HM⟩ := hrel
     obtain ⟨wm, rfl⟩ : ∃ wm, wm = wr := ⟨wr, rfl⟩
     have HV : Hid (Rnd w p ⟨ra, rb, ro, rc, ca, cb, co, cc⟩ (w.heap.size + 1) L2 wm) := HM.out.1
     have HH : Hid (b2 = false → ∀ j, j < k → Held p L2 j) := HM.out.2.1
     have HK : Hid (rankV L p.cl ≤ rankV L2 p.cl ∧ (b2 = true → rankV L p.cl < rankV L2 p.cl)) := HM.out.2.2
     clear HM
     cases gk with
     | zero =>
      obtain rfl : k = cl := by omega
      go_wp2
      go_roundg g
      case measure => omega
      case rel =>
       refine ⟨b2, L2, rfl, HV.out, fun h j hj => HH.out h j (by rw [← Hcl.out]; exact hj), fun h => ?_⟩
       have q1 := HK.out.2 h
       have q2 := HQ.out
       omega
     | succ g2 =>
      have hk : k < cl := by omega
      have hki : (k : Int) < cl := by omega
      have hca := HV.out.v.at_ k (by rw [Hcl.out]; exact hk)
      cases eL : L2 k with
      | none =>
       rw [eL] at hca
       have c0 := hca.1
       have HeL : Hid (L2 k = none) := eL
       clear hca eL
       go_wp2
       go_roundg g2
       case measure => omega
       case rel =>
        refine ⟨k + 1, b2, L2, by omega, by first | rfl | simp, rfl, HV.out, fun h j hj => ?_, HK.out⟩
        by_cases q : j = k
        ·subst q; intro s e; rw [HeL.out] at e; cases e
        ·exact HH.out h j (by omega)
      | some s =>
       rw [eL] at hca
       obtain ⟨gs, cs, c0, c1, hks, hgne⟩ := hca
       have HeL : Hid (L2 k = some s) := eL
       have Hks : Hid (KRow wm gs s) := hks
       clear eL hks hgne
       obtain ⟨S, HS⟩ : ∃ S : World → Prop, Hid (∀ w', S w' ↔ More wm w') := ⟨_, fun _ => Iff.rfl⟩
       have HS0 : S wm.drew := (HS.out _).2 (More.refl _).drew
       have hne : Nonempty { w' // S w' } := ⟨⟨_, HS0⟩⟩
       have k0 : ∀ i : { w' // S w' }, i.val.cell? ⟨w.heap.size + 1, k * 2, none⟩ = some (.bool true) := fun i => ((HS.out _).1 i.property).cell c0
       have k1 : ∀ i : { w' // S w' }, i.val.cell? ⟨w.heap.size + 1, k * 2 + 1, none⟩ = some (.slice (some ⟨gs, 0, none⟩) 8 cs) := fun i => ((HS.out _).1 i.property).cell c1
       have k2 : ∀ i : { w' // S w' }, i.val.cell? ⟨w.heap.size, 0, none⟩ = some (.slice ra p.rl rc) := fun i => (HV.out.box.more ((HS.out _).1 i.property)).cell rfl
       have k3 : ∀ i : { w' // S w' }, i.val.cell? ⟨w.heap.size, 1, none⟩ = some (.slice ca cl cc) := fun i => by have := (HV.out.box.more ((HS.out _).1 i.property)).cell (j := 1) rfl; rw [Hcl.out] at this; exact this
       have cld : ∀ w1 : World, More wm w1 → Calls Try.prog 24 #[.agg #[.slice ra p.rl rc, .slice ca cl cc], .int .i64 k, st true gs cs] w1 fun e w' => ∃ v, e = .returned v ∧ LdAt w' w1.heap.size v (J0d p k s) ∧ More w1 w' := fun w1 m => by
        have hkp : k < p.cl := by rw [Hcl.out]; exact hk
        have := J6a p ⟨ra, rb, ro, rc, ca, cb, co, cc⟩ k gs cs s w1 (HV.out.pin.more m) hkp H.out.2.1.2.2.1 (H.out.2.1.2.2.2 k hkp) (H.out.2.2 k hkp).1 (H.out.2.2 k hkp).2 (Hks.out.more m)
        dsimp only at this
        rw [Hcl.out] at this
        exact this
       have Hld : Hid (∀ w1 : World, More wm w1 → Calls Try.prog 24 #[.agg #[.slice ra p.rl rc, .slice ca cl cc], .int .i64 k, st true gs cs] w1 fun e w' => ∃ v, e = .returned v ∧ LdAt w' w1.heap.size v (J0d p k s) ∧ More w1 w') := cld
       clear cld
       go_wp2_with (fail)
       refine J01 (S := S) [(0, true), (1, true), (2, true), (3, true), (4, true), (5, true), (6, false), (7, true)] (by kernel_rfl) (by kernel_rfl) (by kernel_rfl) HS0 ?_
       iterate 6 (refine J00 rfl (by kernel_rfl) (fun K hK => ?_); go_simp; refine hK _ _ ?_; clear hK K)
       refine J02 rfl (by kernel_rfl) (fun K hK => ?_); go_simp
       refine (Hld.out _ (More.refl _).drew).mono ?_
       rintro e w3 ⟨lv, rfl, hlv, m3⟩
       have Hm3 : Hid (More wm w3) := (More.refl _).drew.trans m3
       have HS3 : S w3 := (HS.out _).2 Hm3.out
       obtain ⟨ls, hls⟩ : ∃ ls, J0d p k s = ls := ⟨_, rfl⟩
       have Hls : Hid (J0d p k s = ls) := hls
       rw [hls] at hlv
       clear hls
       have Hlv0 : Hid (LdAt w3 wm.heap.size lv ls) := hlv
       obtain ⟨la, lbk, lcap, rfl, hla, _, hl2, _⟩ := hlv
       obtain ⟨nl, hnl⟩ : ∃ nl, ls.length = nl := ⟨_, rfl⟩
       rw [hnl] at hla hl2 ⊢
       have Hlv1 : Hid (LdAt w3 wm.heap.size (.slice la nl lcap) ls) := by have := Hlv0.out; rw [hnl] at this; exact this
       have Hnl : Hid (ls.length = nl ∧ (0 < nl → la = some ⟨lbk, 0, none⟩)) := ⟨hnl, hla⟩
       clear m3 hnl hla
       go_simp
       refine hK _ _ HS3 ?_; clear hK K
       (refine J00 rfl (by kernel_rfl) (fun K hK => ?_); go_simp; refine hK _ _ ?_; clear hK K)
       refine J04 ?_
       clear k0 k1 k2 k3 hne HS0 HS3 c0 c1
       go_wp2_with (fail)
       go_loopg [4, 7] nl (fun g3 av iv wr3 => ∃ (j : Nat) (b3 : Bool) (L3 : KV), j + g3 = nl ∧ iv = .int .i64 j ∧ av = .bool b3 ∧ Hid (Rnd w p ⟨ra, rb, ro, rc, ca, cb, co, cc⟩ (w.heap.size + 1) L3 wr3 ∧ LdAt wr3 wm.heap.size (.slice la nl lcap) ls ∧ (b3 = false → b2 = false ∧ L3 = L2 ∧ ∀ i, i < j → ∀ x, ls[i]? = some x → x.1 < p.cl → ∃ u, L2 x.1 = some u ∧ leS x.2 u) ∧ rankV L2 p.cl ≤ rankV L3 p.cl ∧ (b3 = true → b2 = true ∨ rankV L2 p.cl < rankV L3 p.cl)))
       case atStart => exact ⟨0, b2, L2, by omega, rfl, rfl, HV.out.step (by have := Hcl.out; omega) Hm3.out, Hlv1.out, fun h => ⟨h, rfl, fun i hi => absurd hi (Nat.not_lt_zero _)⟩, Nat.le_refl _, fun h => .inl h⟩
       case round =>
        obtain ⟨j, b3, L3, hjg, rfl, rfl, HJ⟩ := hrel
        obtain ⟨wr3, rfl⟩ : ∃ wr3, wr3 = wr := ⟨wr, rfl⟩
        have HJ1 : Hid (Rnd w p ⟨ra, rb, ro, rc, ca, cb, co, cc⟩ (w.heap.size + 1) L3 wr3) := HJ.out.1
        have HJ2 : Hid (LdAt wr3 wm.heap.size (.slice la nl lcap) ls) := HJ.out.2.1
        have HJ3 : Hid (b3 = false → b2 = false ∧ L3 = L2 ∧ ∀ i, i < j → ∀ x, ls[i]? = some x → x.1 < p.cl → ∃ u, L2 x.1 = some u ∧ leS x.2 u) := HJ.out.2.2.1
        have HJ4 : Hid (rankV L2 p.cl ≤ rankV L3 p.cl ∧ (b3 = true → b2 = true ∨ rankV L2 p.cl < rankV L3 p.cl)) := HJ.out.2.2.2
        clear HJ
        cases gk with
        | zero =>
         obtain rfl : j = nl := by omega
         go_wp2
         go_roundg g2
         case measure => omega
         case rel =>
          refine ⟨k + 1, b3, L3, by omega, by first | rfl | simp, rfl, HJ1.out, fun h i hi => ?_, by have := HK.out.1; have := HJ4.out.1; omega, fun h => ?_⟩
          ·obtain ⟨q1, q2, q3⟩ := HJ3.out h
           rw [q2]
           by_cases q : i = k
           ·subst q
            intro s' e' x hx hxc
            rw [HeL.out] at e'
            cases e'
            rw [Hls.out] at hx
            obtain ⟨i', hi', hx'⟩ := List.mem_iff_getElem.1 hx
            exact q3 i' (by rw [← Hnl.out.1]; exact hi') x (by rw [List.getElem?_eq_getElem hi', hx']) hxc
           ·exact HH.out q1 i (by omega)
          ·rcases HJ4.out.2 h with q | q
           ·have := HK.out.2 q; have := HJ4.out.1; omega
           ·have := HK.out.1; omega
        | succ g3 =>
         have hj : j < nl := by omega
         have hji : (j : Int) < nl := by omega
         have hnli : (nl : Int) ≤ 2 := by omega
         obtain ⟨x, hx⟩ : ∃ x, ls[j]? = some x := ⟨ls[j]'(by rw [Hnl.out.1]; exact hj), List.getElem?_eq_getElem _⟩
         obtain rfl : la = some ⟨lbk, 0, none⟩ := Hnl.out.2 (by omega)
         obtain ⟨_, lbk', _, hsl, hlb', hlob, _, hcells⟩ := HJ2.out
         obtain ⟨gx, cx, l0, l1, l2, hkx, hgx⟩ := hcells j x hx
         have hlbk : lbk' = lbk := by
          have h1 := hlb' (by rw [Hnl.out.1]; omega)
          injection hsl with h2 _ _
          rw [h1] at h2
          injection h2 with h3
          injection h3 with h4
          exact h4.symm
         subst hlbk
         obtain ⟨xto, xs⟩ := x
         dsimp only at l0 hkx
         have HKX : Hid (KRow wr3 gx xs) := hkx
         clear hsl hlb' hcells hkx
         by_cases hxc : p.cl ≤ xto
         ·have hxi : (cl : Int) ≤ xto := by have := Hcl.out; omega
          have Hxc : Hid (p.cl ≤ xto ∧ ls[j]? = some (xto, xs)) := ⟨hxc, hx⟩
          clear hxc hx
          go_wp2
          go_roundg g3
          case measure => omega
          case rel =>
           refine ⟨j + 1, b3, L3, by omega, by first | rfl | simp, rfl, HJ1.out, HJ2.out, fun h => ?_, HJ4.out⟩
           obtain ⟨q1, q2, q3⟩ := HJ3.out h
           refine ⟨q1, q2, fun i hi y hy hyc => ?_⟩
           by_cases q : i = j
           ·subst q
            rw [Hxc.out.2] at hy
            cases hy
            have := Hxc.out.1
            dsimp only at hyc
            omega
           ·exact q3 i (by omega) y hy hyc
         ·have hxi : ¬ (cl : Int) ≤ xto := by have := Hcl.out; omega
          have hxl : (xto : Int) < cl := by omega
          have HX : Hid (ls[j]? = some (xto, xs) ∧ Just p (xto, xs) ∧ xto < p.cl) := ⟨hx, HV.out.on.just H.out.2.1 (by rw [Hcl.out]; exact hk) HeL.out (by rw [Hls.out]; exact List.mem_of_getElem? hx), by omega⟩
          clear hxc hx
          obtain ⟨bo, oa, on, oc, d0, d1, hO⟩ := (HJ1.out.v.at_ xto HX.out.2.2).oat
          have HO : Hid (OAt wr3 bo oa on oc (L3 xto)) := hO
          clear hO
          obtain ⟨S, HS⟩ : ∃ S : World → Prop, Hid (∀ w', S w' ↔ More wr3 w') := ⟨_, fun _ => Iff.rfl⟩
          have HS0 : S wr3.drew := (HS.out _).2 (More.refl _).drew
          have hne : Nonempty { w' // S w' } := ⟨⟨_, HS0⟩⟩
          have k0 : ∀ i : { w' // S w' }, i.val.cell? ⟨w.heap.size + 1, xto * 2, none⟩ = some (.bool bo) := fun i => ((HS.out _).1 i.property).cell d0
          have k1 : ∀ i : { w' // S w' }, i.val.cell? ⟨w.heap.size + 1, xto * 2 + 1, none⟩ = some (.slice oa on oc) := fun i => ((HS.out _).1 i.property).cell d1
          have k2 : ∀ i : { w' // S w' }, i.val.cell? ⟨lbk', j * 3, none⟩ = some (.int .i64 xto) := fun i => ((HS.out _).1 i.property).cell l0
          have k3 : ∀ i : { w' // S w' }, i.val.cell? ⟨lbk', j * 3 + 1, none⟩ = some (.bool true) := fun i => ((HS.out _).1 i.property).cell l1
          have k4 : ∀ i : { w' // S w' }, i.val.cell? ⟨lbk', j * 3 + 2, none⟩ = some (.slice (some ⟨gx, 0, none⟩) 8 cx) := fun i => ((HS.out _).1 i.property).cell l2
          have k5 : ∀ i : { w' // S w' }, i.val.cell? ⟨lbk', j * 3 + 1 + 1, none⟩ = some (.slice (some ⟨gx, 0, none⟩) 8 cx) := fun i => ((HS.out _).1 i.property).cell l2
          go_wp2_with (fail)
          clear l0 l1 l2
          refine J1j (S := S) (by kernel_rfl) HS0 ?_
          refine J07 0 rfl (by kernel_rfl) HS0 (by kernel_rfl) (fun K hK => ?_); go_simp; refine hK _ _ ?_; clear hK K
          refine J07 1 rfl (by kernel_rfl) HS0 (by kernel_rfl) (fun K hK => ?_); go_simp; refine hK _ _ ?_; clear hK K
          refine J07 2 rfl (by kernel_rfl) HS0 (by kernel_rfl) (fun K hK => ?_); go_simp; refine hK _ _ ?_; clear hK K
          refine J07 3 rfl (by kernel_rfl) HS0 (by kernel_rfl) (fun K hK => ?_); go_simp; refine hK _ _ ?_; clear hK K
          refine J07 4 rfl (by kernel_rfl) HS0 (by kernel_rfl) (fun K hK => ?_); go_simp; refine hK _ _ ?_; clear hK K
          refine J07 5 rfl (by kernel_rfl) HS0 (by kernel_rfl) (fun K hK => ?_); go_simp; refine hK _ _ ?_; clear hK K
          refine J07 6 rfl (by kernel_rfl) HS0 (by kernel_rfl) (fun K hK => ?_); go_simp; refine hK _ _ ?_; clear hK K
          refine J07 7 rfl (by kernel_rfl) HS0 (by kernel_rfl) (fun K hK => ?_); go_simp; refine hK _ _ ?_; clear hK K
          refine J07 8 rfl (by kernel_rfl) HS0 (by kernel_rfl) (fun K hK => ?_); go_simp; refine hK _ _ ?_; clear hK K
          refine J3k 9 10 (by kernel_rfl) ?_ ?_
          ·-- the call, then the new block
           refine J08 rfl (by kernel_rfl) (fun K hK => ?_); go_simp
           refine (Jb4 bo oa on oc gx cx (L3 xto) xs _ (HO.out.more (More.refl _).drew) (HKX.out.more (More.refl _).drew)).mono ?_
           rintro e w5 ⟨gj, cj, rfl, hgj, hjr, m5⟩
           have M5 : Hid (More wr3 w5) := (More.refl _).drew.trans m5
           have HJ5 : Hid (KRow w5 gj (joinV (L3 xto) xs) ∧ wr3.heap.size ≤ gj) := ⟨hjr, by simpa using hgj⟩
           clear m5 hjr hgj
           go_simp
           refine hK _ _ ((HS.out _).2 M5.out) ?_; clear hK K
           refine J0z 10 (by kernel_rfl) ?_
           refine J08 rfl (by kernel_rfl) (fun K hK => ?_); go_simp
           refine hK _ _ ((HS.out _).2 (M5.out.alloc _ _)) ?_; clear hK K
           refine J0z 11 (by kernel_rfl) ?_
           refine J08 rfl (by kernel_rfl) (fun K hK => ?_); go_simp
           obtain ⟨w6, Hw6⟩ : ∃ w6 : World, Hid (w6 = w5.alloc (.cells #[.bool true, .slice (some ⟨gj, 0, none⟩) 8 cj] 57)) := ⟨_, rfl⟩
           have HM6 : Hid (More wr3 w6) := Hw6.out ▸ M5.out.alloc _ _
           obtain ⟨bx, Hbx⟩ : ∃ bx, Hid (bx = w5.heap.size) := ⟨_, rfl⟩
           have HB6 : Hid (Blk w6 bx #[.bool true, .slice (some ⟨gj, 0, none⟩) 8 cj] 57) := Hw6.out ▸ Hbx.out ▸ Blk.last _ _ _
           have HJ6 : Hid (KRow w6 gj (joinV (L3 xto) xs)) := HJ5.out.1.more (Hw6.out ▸ (More.refl _).alloc _ _)
           have HG6 : Hid (w.heap.size + 1 < gj) := by show _ < _; have := HJ5.out.2; have := (HJ1.out.v.at_ 0 (by have := Hcl.out; omega)).lt; omega
           rw [← Hw6.out, ← Hbx.out]
           refine hK _ _ ((HS.out _).2 HM6.out) ?_; clear hK K
           refine J3w (by kernel_rfl) ?_
           clear k0 k1 k2 k3 k4 k5 hne HS0
           have HR6 : Hid (Rnd w p ⟨ra, rb, ro, rc, ca, cb, co, cc⟩ (w.heap.size + 1) L3 w6 ∧ LdAt w6 wm.heap.size (.slice (some ⟨lbk', 0, none⟩) nl lcap) ls) := ⟨HJ1.out.step (by have := Hcl.out; omega) HM6.out, HJ2.out.more HM6.out⟩
           have HO6 : Hid (OAt w6 bo oa on oc (L3 xto)) := HO.out.more HM6.out
           obtain ⟨T, HT⟩ : ∃ T : World → Prop, Hid (∀ w', T w' ↔ More w6 w') := ⟨_, fun _ => Iff.rfl⟩
           have HT0 : T w6.drew := (HT.out _).2 (More.refl _).drew
           have hneT : Nonempty { w' // T w' } := ⟨⟨_, HT0⟩⟩
           have t0 : ∀ i : { w' // T w' }, i.val.cell? ⟨bx, 0, none⟩ = some (.bool true) := fun i => (HB6.out.more ((HT.out _).1 i.property)).cell rfl
           have t1 : ∀ i : { w' // T w' }, i.val.cell? ⟨bx, 1, none⟩ = some (.slice (some ⟨gj, 0, none⟩) 8 cj) := fun i => (HB6.out.more ((HT.out _).1 i.property)).cell rfl
           have t2 : ∀ i : { w' // T w' }, i.val.cell? ⟨w.heap.size + 1, xto * 2, none⟩ = some (.bool bo) := fun i => (HM6.out.trans ((HT.out _).1 i.property)).cell d0
           have t3 : ∀ i : { w' // T w' }, i.val.cell? ⟨w.heap.size + 1, xto * 2 + 1, none⟩ = some (.slice oa on oc) := fun i => (HM6.out.trans ((HT.out _).1 i.property)).cell d1
           go_wp2_with (fail)
           refine J01 (S := T) [(0, true), (1, true), (2, true), (3, true), (4, true), (5, false), (6, true)] (by kernel_rfl) (by kernel_rfl) (by kernel_rfl) HT0 ?_
           iterate 5 (refine J00 rfl (by kernel_rfl) (fun K hK => ?_); go_simp; refine hK _ _ ?_; clear hK K)
           refine J02 rfl (by kernel_rfl) (fun K hK => ?_); go_simp
           refine (Jbg bo oa on oc gj cj (L3 xto) (joinV (L3 xto) xs) _ (HO6.out.more (More.refl _).drew) (HJ6.out.more (More.refl _).drew)).mono ?_
           rintro e w7 ⟨r, rfl, hr, m7⟩
           have HM7 : Hid (More w6 w7) := (More.refl _).drew.trans m7
           have HT7 : T w7 := (HT.out _).2 HM7.out
           have Hr : Hid (r = true ↔ SameV (joinV (L3 xto) xs) (L3 xto)) := hr
           clear hr m7
           cases r with
           | true =>
            have Hs : Hid (SameV (joinV (L3 xto) xs) (L3 xto)) := Hr.out.1 rfl
            clear Hr
            go_simp
            refine hK _ _ HT7 ?_; clear hK K
            (refine J00 rfl (by kernel_rfl) (fun K hK => ?_); go_simp; refine hK _ _ ?_; clear hK K)
            refine J04 ?_
            clear t0 t1 t2 t3 hneT HT0 HT7 d0 d1
            go_wp2
            go_roundg g3
            case measure => omega
            case rel =>
             refine ⟨j + 1, b3, L3, by omega, by first | rfl | simp, rfl, HR6.out.1.step (by have := Hcl.out; omega) HM7.out, HR6.out.2.more HM7.out, fun h => ?_, HJ4.out.1, HJ4.out.2⟩
             obtain ⟨q1, q2, q3⟩ := HJ3.out h
             refine ⟨q1, q2, fun i hi y hy hyc => ?_⟩
             by_cases q : i = j
             ·subst q
              rw [HX.out.1] at hy
              cases hy
              rw [← q2]
              exact J3s Hs.out
             ·exact q3 i (by omega) y hy hyc
           | false =>
            have Hs : Hid (¬ SameV (joinV (L3 xto) xs) (L3 xto)) := fun q => absurd (Hr.out.2 q) (by simp)
            clear Hr
            go_simp
            refine hK _ _ HT7 ?_; clear hK K
            (refine J00 rfl (by kernel_rfl) (fun K hK => ?_); go_simp; refine hK _ _ ?_; clear hK K)
            refine J04 ?_
            clear t0 t1 t2 t3 hneT HT0 HT7
            have v0 := HM7.out.cell (HM6.out.cell d0)
            have v1 := HM7.out.cell (HM6.out.cell d1)
            have v2 : w7.cell? ⟨bx, 0, none⟩ = some (.bool true) := (HB6.out.more HM7.out).cell rfl
            have v3 : w7.cell? ⟨bx, 1, none⟩ = some (.slice (some ⟨gj, 0, none⟩) 8 cj) := (HB6.out.more HM7.out).cell rfl
            have HR7 : Hid (Rnd w p ⟨ra, rb, ro, rc, ca, cb, co, cc⟩ (w.heap.size + 1) L3 w7 ∧ LdAt w7 wm.heap.size (.slice (some ⟨lbk', 0, none⟩) nl lcap) ls) := ⟨HR6.out.1.step (by have := Hcl.out; omega) HM7.out, HR6.out.2.more HM7.out⟩
            have v4 := HR7.out.1.v.fr (xto * 2)
            have v5 := HR7.out.1.v.fr (xto * 2 + 1)
            clear d0 d1
            have Hend : Hid (Rnd w p ⟨ra, rb, ro, rc, ca, cb, co, cc⟩ (w.heap.size + 1) (putV L3 xto (joinV (L3 xto) xs)) ((w7.setCell ⟨w.heap.size + 1, xto * 2, none⟩ (.bool true)).setCell ⟨w.heap.size + 1, xto * 2 + 1, none⟩ (.slice (some ⟨gj, 0, none⟩) 8 cj)) ∧ LdAt ((w7.setCell ⟨w.heap.size + 1, xto * 2, none⟩ (.bool true)).setCell ⟨w.heap.size + 1, xto * 2 + 1, none⟩ (.slice (some ⟨gj, 0, none⟩) 8 cj)) wm.heap.size (.slice (some ⟨lbk', 0, none⟩) nl lcap) ls) := by
             have hlb : w.heap.size + 1 < wm.heap.size := (HV.out.v.at_ 0 (by have := Hcl.out; omega)).lt
             have hmm := (HR7.out.1.more.setCell (a := ⟨w.heap.size + 1, xto * 2, none⟩) (by dsimp only; omega) (.bool true)).setCell (a := ⟨w.heap.size + 1, xto * 2 + 1, none⟩) (by dsimp only; omega) (.slice (some ⟨gj, 0, none⟩) 8 cj)
             refine ⟨⟨HR7.out.1.v.put HX.out.2.2 (HJ6.out.more HM7.out) (by have := HG6.out; omega), HR7.out.1.on.joinJ (x := (xto, xs)) HX.out.2.1 HX.out.2.2, (HR7.out.1.box.other (by omega) _ _).other (by omega) _ _, H.out.1.more hmm, hmm⟩, (HR7.out.2.other (by omega) _ _).other (by omega) _ _⟩
            have Hrk : Hid (rankV L3 p.cl < rankV (putV L3 xto (joinV (L3 xto) xs)) p.cl) := Ja8 HR7.out.1.on.norm HX.out.2.2 HX.out.2.1.norm Hs.out
            go_wp2
            go_roundg g3
            case measure => omega
            case rel =>
             exact ⟨j + 1, true, _, by omega, by first | rfl | simp, rfl, Hend.out.1, Hend.out.2, fun h => absurd h (by simp), by have := HJ4.out.1; have := Hrk.out; omega, fun _ => .inr (by have := HJ4.out.1; have := Hrk.out; omega)⟩
          ·-- the new block, then the call
           refine J08 rfl (by kernel_rfl) (fun K hK => ?_); go_simp
           refine hK _ _ ((HS.out _).2 ((More.refl _).drew.alloc _ _)) ?_; clear hK K
           refine J0z 9 (by kernel_rfl) ?_
           refine J08 rfl (by kernel_rfl) (fun K hK => ?_); go_simp
           refine (Jb4 bo oa on oc gx cx (L3 xto) xs _ (HO.out.more ((More.refl _).drew.alloc _ _)) (HKX.out.more ((More.refl _).drew.alloc _ _))).mono ?_
           rintro e w5 ⟨gj, cj, rfl, hgj, hjr, m5⟩
           have M5 : Hid (More wr3 w5) := ((More.refl _).drew.alloc _ _).trans m5
           have HJ5 : Hid (KRow w5 gj (joinV (L3 xto) xs) ∧ wr3.heap.size < gj) := ⟨hjr, by have : (wr3.alloc (.cells #[.bool false, .slice none 0 0] 57)).heap.size ≤ gj := hgj; simp at this; omega⟩
           have HB5 : Hid (Blk w5 wr3.heap.size #[.bool false, .slice none 0 0] 57) := (Blk.last wr3.drew _ _).more m5
           clear m5 hjr hgj
           go_simp
           refine hK _ _ ((HS.out _).2 M5.out) ?_; clear hK K
           refine J0z 11 (by kernel_rfl) ?_
           have y0 := HB5.out.cell (j := 0) (v := .bool false) rfl
           have y1 := HB5.out.cell (j := 1) (v := .slice none 0 0) rfl
           have y2 := HB5.out.frozen 0
           have y3 := HB5.out.frozen 1
           refine J08 rfl (by kernel_rfl) (fun K hK => ?_); go_simp
           obtain ⟨w6, Hw6⟩ : ∃ w6 : World, Hid (w6 = (w5.setCell ⟨wr3.heap.size, 0, none⟩ (.bool true)).setCell ⟨wr3.heap.size, 1, none⟩ (.slice (some ⟨gj, 0, none⟩) 8 cj)) := ⟨_, rfl⟩
           have HM6 : Hid (More wr3 w6) := Hw6.out ▸ (M5.out.setCell (Nat.le_refl _) _).setCell (Nat.le_refl _) _
           obtain ⟨bx, Hbx⟩ : ∃ bx, Hid (bx = wr3.heap.size) := ⟨_, rfl⟩
           have HB6 : Hid (Blk w6 bx #[.bool true, .slice (some ⟨gj, 0, none⟩) 8 cj] 57) := by
            show Blk _ _ _ _
            rw [Hw6.out, Hbx.out]
            have h1 := HB5.out
            unfold Blk at h1 ⊢
            simp [World.setCell, Array.getElem?_modify, h1]
           have HJ6 : Hid (KRow w6 gj (joinV (L3 xto) xs)) := Hw6.out ▸ (HJ5.out.1.other (by have := HJ5.out.2; omega) _ _).other (by have := HJ5.out.2; omega) _ _
           have HG6 : Hid (w.heap.size + 1 < gj) := by show _ < _; have := HJ5.out.2; have := (HJ1.out.v.at_ 0 (by have := Hcl.out; omega)).lt; omega
           rw [← Hw6.out]
           simp only [← Hbx.out]
           clear y0 y1 y2 y3
           refine hK _ _ ((HS.out _).2 HM6.out) ?_; clear hK K
           refine J3w (by kernel_rfl) ?_
           clear k0 k1 k2 k3 k4 k5 hne HS0
           have HR6 : Hid (Rnd w p ⟨ra, rb, ro, rc, ca, cb, co, cc⟩ (w.heap.size + 1) L3 w6 ∧ LdAt w6 wm.heap.size (.slice (some ⟨lbk', 0, none⟩) nl lcap) ls) := ⟨HJ1.out.step (by have := Hcl.out; omega) HM6.out, HJ2.out.more HM6.out⟩
           have HO6 : Hid (OAt w6 bo oa on oc (L3 xto)) := HO.out.more HM6.out
           obtain ⟨T, HT⟩ : ∃ T : World → Prop, Hid (∀ w', T w' ↔ More w6 w') := ⟨_, fun _ => Iff.rfl⟩
           have HT0 : T w6.drew := (HT.out _).2 (More.refl _).drew
           have hneT : Nonempty { w' // T w' } := ⟨⟨_, HT0⟩⟩
           have t0 : ∀ i : { w' // T w' }, i.val.cell? ⟨bx, 0, none⟩ = some (.bool true) := fun i => (HB6.out.more ((HT.out _).1 i.property)).cell rfl
           have t1 : ∀ i : { w' // T w' }, i.val.cell? ⟨bx, 1, none⟩ = some (.slice (some ⟨gj, 0, none⟩) 8 cj) := fun i => (HB6.out.more ((HT.out _).1 i.property)).cell rfl
           have t2 : ∀ i : { w' // T w' }, i.val.cell? ⟨w.heap.size + 1, xto * 2, none⟩ = some (.bool bo) := fun i => (HM6.out.trans ((HT.out _).1 i.property)).cell d0
           have t3 : ∀ i : { w' // T w' }, i.val.cell? ⟨w.heap.size + 1, xto * 2 + 1, none⟩ = some (.slice oa on oc) := fun i => (HM6.out.trans ((HT.out _).1 i.property)).cell d1
           go_wp2_with (fail)
           refine J01 (S := T) [(0, true), (1, true), (2, true), (3, true), (4, true), (5, false), (6, true)] (by kernel_rfl) (by kernel_rfl) (by kernel_rfl) HT0 ?_
           iterate 5 (refine J00 rfl (by kernel_rfl) (fun K hK => ?_); go_simp; refine hK _ _ ?_; clear hK K)
           refine J02 rfl (by kernel_rfl) (fun K hK => ?_); go_simp
           refine (Jbg bo oa on oc gj cj (L3 xto) (joinV (L3 xto) xs) _ (HO6.out.more (More.refl _).drew) (HJ6.out.more (More.refl _).drew)).mono ?_
           rintro e w7 ⟨r, rfl, hr, m7⟩
           have HM7 : Hid (More w6 w7) := (More.refl _).drew.trans m7
           have HT7 : T w7 := (HT.out _).2 HM7.out
           have Hr : Hid (r = true ↔ SameV (joinV (L3 xto) xs) (L3 xto)) := hr
           clear hr m7
           cases r with
           | true =>
            have Hs : Hid (SameV (joinV (L3 xto) xs) (L3 xto)) := Hr.out.1 rfl
            clear Hr
            go_simp
            refine hK _ _ HT7 ?_; clear hK K
            (refine J00 rfl (by kernel_rfl) (fun K hK => ?_); go_simp; refine hK _ _ ?_; clear hK K)
            refine J04 ?_
            clear t0 t1 t2 t3 hneT HT0 HT7 d0 d1
            go_wp2
            go_roundg g3
            case measure => omega
            case rel =>
             refine ⟨j + 1, b3, L3, by omega, by first | rfl | simp, rfl, HR6.out.1.step (by have := Hcl.out; omega) HM7.out, HR6.out.2.more HM7.out, fun h => ?_, HJ4.out.1, HJ4.out.2⟩
             obtain ⟨q1, q2, q3⟩ := HJ3.out h
             refine ⟨q1, q2, fun i hi y hy hyc => ?_⟩
             by_cases q : i = j
             ·subst q
              rw [HX.out.1] at hy
              cases hy
              rw [← q2]
              exact J3s Hs.out
             ·exact q3 i (by omega) y hy hyc
           | false =>
            have Hs : Hid (¬ SameV (joinV (L3 xto) xs) (L3 xto)) := fun q => absurd (Hr.out.2 q) (by simp)
            clear Hr
            go_simp
            refine hK _ _ HT7 ?_; clear hK K
            (refine J00 rfl (by kernel_rfl) (fun K hK => ?_); go_simp; refine hK _ _ ?_; clear hK K)
            refine J04 ?_
            clear t0 t1 t2 t3 hneT HT0 HT7
            have v0 := HM7.out.cell (HM6.out.cell d0)
            have v1 := HM7.out.cell (HM6.out.cell d1)
            have v2 : w7.cell? ⟨bx, 0, none⟩ = some (.bool true) := (HB6.out.more HM7.out).cell rfl
            have v3 : w7.cell? ⟨bx, 1, none⟩ = some (.slice (some ⟨gj, 0, none⟩) 8 cj) := (HB6.out.more HM7.out).cell rfl
            have HR7 : Hid (Rnd w p ⟨ra, rb, ro, rc, ca, cb, co, cc⟩ (w.heap.size + 1) L3 w7 ∧ LdAt w7 wm.heap.size (.slice (some ⟨lbk', 0, none⟩) nl lcap) ls) := ⟨HR6.out.1.step (by have := Hcl.out; omega) HM7.out, HR6.out.2.more HM7.out⟩
            have v4 := HR7.out.1.v.fr (xto * 2)
            have v5 := HR7.out.1.v.fr (xto * 2 + 1)
            clear d0 d1
            have Hend : Hid (Rnd w p ⟨ra, rb, ro, rc, ca, cb, co, cc⟩ (w.heap.size + 1) (putV L3 xto (joinV (L3 xto) xs)) ((w7.setCell ⟨w.heap.size + 1, xto * 2, none⟩ (.bool true)).setCell ⟨w.heap.size + 1, xto * 2 + 1, none⟩ (.slice (some ⟨gj, 0, none⟩) 8 cj)) ∧ LdAt ((w7.setCell ⟨w.heap.size + 1, xto * 2, none⟩ (.bool true)).setCell ⟨w.heap.size + 1, xto * 2 + 1, none⟩ (.slice (some ⟨gj, 0, none⟩) 8 cj)) wm.heap.size (.slice (some ⟨lbk', 0, none⟩) nl lcap) ls) := by
             have hlb : w.heap.size + 1 < wm.heap.size := (HV.out.v.at_ 0 (by have := Hcl.out; omega)).lt
             have hmm := (HR7.out.1.more.setCell (a := ⟨w.heap.size + 1, xto * 2, none⟩) (by dsimp only; omega) (.bool true)).setCell (a := ⟨w.heap.size + 1, xto * 2 + 1, none⟩) (by dsimp only; omega) (.slice (some ⟨gj, 0, none⟩) 8 cj)
             refine ⟨⟨HR7.out.1.v.put HX.out.2.2 (HJ6.out.more HM7.out) (by have := HG6.out; omega), HR7.out.1.on.joinJ (x := (xto, xs)) HX.out.2.1 HX.out.2.2, (HR7.out.1.box.other (by omega) _ _).other (by omega) _ _, H.out.1.more hmm, hmm⟩, (HR7.out.2.other (by omega) _ _).other (by omega) _ _⟩
            have Hrk : Hid (rankV L3 p.cl < rankV (putV L3 xto (joinV (L3 xto) xs)) p.cl) := Ja8 HR7.out.1.on.norm HX.out.2.2 HX.out.2.1.norm Hs.out
            go_wp2
            go_roundg g3
            case measure => omega
            case rel =>
             exact ⟨j + 1, true, _, by omega, by first | rfl | simp, rfl, Hend.out.1, Hend.out.2, fun h => absurd h (by simp), by have := HJ4.out.1; have := Hrk.out; omega, fun _ => .inr (by have := HJ4.out.1; have := Hrk.out; omega)⟩
theorem Jh7 (ra : Option Addr) (rl rc : Nat) (cv : Value) (g c : Nat) (a b ic n : Int) (w : World) (zg : g < w.heap.size) (xb : Bool) (b0 : 0 ≤ b) (b1 : b < 8) (kb : w.cell? ⟨g, b.toNat * 2 + 1, none⟩ = some (.bool xb)) (hcv : ∃ x y z, cv = .slice x y z) :
  Calls Try.prog 26 #[.agg #[.slice ra rl rc, cv], .agg #[.int .i64 3, .int .i64 a, .int .i64 b, .int .i64 ic, .int .i64 n], .slice (some ⟨g, 0, none⟩) 8 c] w fun e w' => e = .returned (.bool (xb)) ∧ More w w' := by
 obtain ⟨cx, cy, cz, rfl⟩ := hcv
 have zg1 : g < w.heap.size + 1 := by omega
 cases xb
 all_goals
  go_enter Try.func26, Try.ntmps26
  go_wp2
  go_ret
  exact ⟨rfl, ((More.refl _).alloc _ _).alloc _ _⟩

theorem Jh8 (ra : Option Addr) (rl rc : Nat) (cv : Value) (g c : Nat) (a b ic n : Int) (w : World) (zg : g < w.heap.size) (xa xb xr : Bool) (a0 : 0 ≤ a) (a1 : a < 8) (ka : w.cell? ⟨g, a.toNat * 2 + 1, none⟩ = some (.bool xa)) (b0 : 0 ≤ b) (b1 : b < 8) (kb : w.cell? ⟨g, b.toNat * 2 + 1, none⟩ = some (.bool xb)) (rb ro : Nat) (hra : ra = some ⟨rb, ro, none⟩) (zr : rb < w.heap.size) (c0 : 0 ≤ ic) (c1 : ic < rl) (kr : w.cell? ⟨rb, ro + ic.toNat * 2 + 1, none⟩ = some (.bool xr)) (hcv : ∃ x y z, cv = .slice x y z) :
  Calls Try.prog 26 #[.agg #[.slice ra rl rc, cv], .agg #[.int .i64 4, .int .i64 a, .int .i64 b, .int .i64 ic, .int .i64 n], .slice (some ⟨g, 0, none⟩) 8 c] w fun e w' => e = .returned (.bool (xb || (xa && !xr))) ∧ More w w' := by
 obtain ⟨cx, cy, cz, rfl⟩ := hcv
 have zg1 : g < w.heap.size + 1 := by omega
 subst hra
 have zr1 : rb < w.heap.size + 1 := by omega
 cases xb <;> cases xa <;> cases xr
 all_goals
  go_enter Try.func26, Try.ntmps26
  go_wp2
  go_ret
  exact ⟨rfl, ((More.refl _).alloc _ _).alloc _ _⟩

theorem Jh9 (ra : Option Addr) (rl rc : Nat) (cv : Value) (g c : Nat) (a b ic n : Int) (w : World) (zg : g < w.heap.size) (xa xr : Bool) (a0 : 0 ≤ a) (a1 : a < 8) (ka : w.cell? ⟨g, a.toNat * 2 + 1, none⟩ = some (.bool xa)) (rb ro : Nat) (hra : ra = some ⟨rb, ro, none⟩) (zr : rb < w.heap.size) (c0 : 0 ≤ ic) (c1 : ic < rl) (kr : w.cell? ⟨rb, ro + ic.toNat * 2 + 1, none⟩ = some (.bool xr)) (hcv : ∃ x y z, cv = .slice x y z) :
  Calls Try.prog 26 #[.agg #[.slice ra rl rc, cv], .agg #[.int .i64 6, .int .i64 a, .int .i64 b, .int .i64 ic, .int .i64 n], .slice (some ⟨g, 0, none⟩) 8 c] w fun e w' => e = .returned (.bool (xa && !xr)) ∧ More w w' := by
 obtain ⟨cx, cy, cz, rfl⟩ := hcv
 have zg1 : g < w.heap.size + 1 := by omega
 subst hra
 have zr1 : rb < w.heap.size + 1 := by omega
 cases xa <;> cases xr
 all_goals
  go_enter Try.func26, Try.ntmps26
  go_wp2
  go_ret
  exact ⟨rfl, ((More.refl _).alloc _ _).alloc _ _⟩

theorem Jha (ra : Option Addr) (rl rc : Nat) (cv : Value) (g c : Nat) (a b ic n : Int) (w : World) (zg : g < w.heap.size) (xa xb : Bool) (a0 : 0 ≤ a) (a1 : a < 8) (ka : w.cell? ⟨g, a.toNat * 2 + 1, none⟩ = some (.bool xa)) (b0 : 0 ≤ b) (b1 : b < 8) (kb : w.cell? ⟨g, b.toNat * 2 + 1, none⟩ = some (.bool xb)) (hcv : ∃ x y z, cv = .slice x y z) :
  Calls Try.prog 26 #[.agg #[.slice ra rl rc, cv], .agg #[.int .i64 8, .int .i64 a, .int .i64 b, .int .i64 ic, .int .i64 n], .slice (some ⟨g, 0, none⟩) 8 c] w fun e w' => e = .returned (.bool (xa || xb)) ∧ More w w' := by
 obtain ⟨cx, cy, cz, rfl⟩ := hcv
 have zg1 : g < w.heap.size + 1 := by omega
 cases xa <;> cases xb
 all_goals
  go_enter Try.func26, Try.ntmps26
  go_wp2
  go_ret
  exact ⟨rfl, ((More.refl _).alloc _ _).alloc _ _⟩

theorem Jeh (ra : Option Addr) (rl rc : Nat) (cv : Value) (g c : Nat) (a b ic n : Int) (w : World) (zg : g < w.heap.size) (xb xc : Bool) (b0 : 0 ≤ b) (b1 : b < 8) (kb : w.cell? ⟨g, b.toNat * 2 + 1, none⟩ = some (.bool xb)) (c0 : 0 ≤ ic) (c1 : ic < 8) (kc : w.cell? ⟨g, ic.toNat * 2 + 1, none⟩ = some (.bool xc)) (hcv : ∃ x y z, cv = .slice x y z) :
  Calls Try.prog 26 #[.agg #[.slice ra rl rc, cv], .agg #[.int .i64 29, .int .i64 a, .int .i64 b, .int .i64 ic, .int .i64 n], .slice (some ⟨g, 0, none⟩) 8 c] w fun e w' => e = .returned (.bool (xb || xc)) ∧ More w w' := by
 obtain ⟨cx, cy, cz, rfl⟩ := hcv
 have zg1 : g < w.heap.size + 1 := by omega
 cases xb <;> cases xc
 all_goals
  go_enter Try.func26, Try.ntmps26
  go_wp2
  go_ret
  exact ⟨rfl, ((More.refl _).alloc _ _).alloc _ _⟩

theorem Jei (ra : Option Addr) (rl rc : Nat) (cv : Value) (g c : Nat) (a b ic n : Int) (w : World) (zg : g < w.heap.size) (xb xc : Bool) (b0 : 0 ≤ b) (b1 : b < 8) (kb : w.cell? ⟨g, b.toNat * 2 + 1, none⟩ = some (.bool xb)) (c0 : 0 ≤ ic) (c1 : ic < 8) (kc : w.cell? ⟨g, ic.toNat * 2 + 1, none⟩ = some (.bool xc)) (hcv : ∃ x y z, cv = .slice x y z) :
  Calls Try.prog 26 #[.agg #[.slice ra rl rc, cv], .agg #[.int .i64 30, .int .i64 a, .int .i64 b, .int .i64 ic, .int .i64 n], .slice (some ⟨g, 0, none⟩) 8 c] w fun e w' => e = .returned (.bool (xb || xc)) ∧ More w w' := by
 obtain ⟨cx, cy, cz, rfl⟩ := hcv
 have zg1 : g < w.heap.size + 1 := by omega
 cases xb <;> cases xc
 all_goals
  go_enter Try.func26, Try.ntmps26
  go_wp2
  go_ret
  exact ⟨rfl, ((More.refl _).alloc _ _).alloc _ _⟩

theorem Jhb (ra : Option Addr) (rl rc : Nat) (cv : Value) (g c : Nat) (a b ic n : Int) (w : World) (zg : g < w.heap.size) (xa : Bool) (a0 : 0 ≤ a) (a1 : a < 8) (ka : w.cell? ⟨g, a.toNat * 2 + 1, none⟩ = some (.bool xa)) (hcv : ∃ x y z, cv = .slice x y z) :
  Calls Try.prog 26 #[.agg #[.slice ra rl rc, cv], .agg #[.int .i64 9, .int .i64 a, .int .i64 b, .int .i64 ic, .int .i64 n], .slice (some ⟨g, 0, none⟩) 8 c] w fun e w' => e = .returned (.bool (xa)) ∧ More w w' := by
 obtain ⟨cx, cy, cz, rfl⟩ := hcv
 have zg1 : g < w.heap.size + 1 := by omega
 cases xa
 all_goals
  go_enter Try.func26, Try.ntmps26
  go_wp2
  go_ret
  exact ⟨rfl, ((More.refl _).alloc _ _).alloc _ _⟩

theorem J9c (ra : Option Addr) (rl rc : Nat) (cv : Value) (g c : Nat) (op a b ic n : Int) (w : World) (zg : g < w.heap.size) (h3 : ¬ op = 3) (h4 : ¬ op = 4) (h6 : ¬ op = 6) (h8 : ¬ op = 8) (h29 : ¬ op = 29) (h30 : ¬ op = 30) (h9 : ¬ op = 9) (hcv : ∃ x y z, cv = .slice x y z) :
  Calls Try.prog 26 #[.agg #[.slice ra rl rc, cv], .agg #[.int .i64 op, .int .i64 a, .int .i64 b, .int .i64 ic, .int .i64 n], .slice (some ⟨g, 0, none⟩) 8 c] w fun e w' => e = .returned (.bool (false)) ∧ More w w' := by
 obtain ⟨cx, cy, cz, rfl⟩ := hcv
 have zg1 : g < w.heap.size + 1 := by omega
 have e3 : (op == 3) = false := by simp [h3]
 have e4 : (op == 4) = false := by simp [h4]
 have e6 : (op == 6) = false := by simp [h6]
 have e8 : (op == 8) = false := by simp [h8]
 have e29 : (op == 29) = false := by simp [h29]
 have e30 : (op == 30) = false := by simp [h30]
 have e9 : (op == 9) = false := by simp [h9]
 clear h3 h4 h6 h8 h29 h30 h9
 all_goals
  go_enter Try.func26, Try.ntmps26
  go_wp2
  go_ret
  exact ⟨rfl, ((More.refl _).alloc _ _).alloc _ _⟩

theorem J9b (p : Prg) (lo : Loc) (at_ g c : Nat) (s : KS) (w : World) (hp : PIn w p lo) (hi : InsOk p.rl p.log p.cl 8 (p.ins at_)) (hk : KRow w g s) :
  Calls Try.prog 26 #[.agg #[.slice lo.ra p.rl lo.rc, .slice lo.ca p.cl lo.cc], .agg #[.int .i64 (p.ins at_).op, .int .i64 (p.ins at_).a, .int .i64 (p.ins at_).b, .int .i64 (p.ins at_).c, .int .i64 (p.ins at_).n], .slice (some ⟨g, 0, none⟩) 8 c] w
   fun e w' => e = .returned (.bool (J0f p (p.ins at_) s)) ∧ More w w' := by
 have zg := hk.lt
 have hI := hi
 unfold InsOk Reg Rgn at hI
 have reg : ∀ v : Int, 0 ≤ v → v < 8 → w.cell? ⟨g, v.toNat * 2 + 1, none⟩ = some (.bool (s v.toNat).s) := fun v h0 h1 => (hk v.toNat (by omega)).1.2
 have rgn : ∀ v : Int, 0 ≤ v → v < p.rl → lo.ra = some ⟨lo.rb, lo.ro, none⟩ ∧ lo.rb < w.heap.size ∧ w.cell? ⟨lo.rb, lo.ro + v.toNat * 2 + 1, none⟩ = some (.bool (p.sec v.toNat)) := fun v h0 h1 =>
  ⟨hp.hr (by omega), J05 (hp.regs v.toNat (by omega)).1, (hp.regs v.toNat (by omega)).2⟩
 by_cases h3 : (p.ins at_).op = 3
 ·simp [h3] at hI
  have e0 : J0f p (p.ins at_) s = (s (p.ins at_).b.toNat).s := by unfold J0f; simp [h3]
  rw [e0, h3]
  exact Jh7 lo.ra p.rl lo.rc (.slice lo.ca p.cl lo.cc) g c (p.ins at_).a (p.ins at_).b (p.ins at_).c (p.ins at_).n w zg _ (by omega) (by omega) (reg (p.ins at_).b (by omega) (by omega)) ⟨_, _, _, rfl⟩
 by_cases h4 : (p.ins at_).op = 4
 ·simp [h4] at hI
  have e0 : J0f p (p.ins at_) s = ((s (p.ins at_).b.toNat).s || ((s (p.ins at_).a.toNat).s && !p.sec (p.ins at_).c.toNat)) := by unfold J0f; simp [h4]
  rw [e0, h4]
  exact Jh8 lo.ra p.rl lo.rc (.slice lo.ca p.cl lo.cc) g c (p.ins at_).a (p.ins at_).b (p.ins at_).c (p.ins at_).n w zg _ _ _ (by omega) (by omega) (reg (p.ins at_).a (by omega) (by omega)) (by omega) (by omega) (reg (p.ins at_).b (by omega) (by omega)) lo.rb lo.ro (rgn (p.ins at_).c (by omega) (by omega)).1 (rgn (p.ins at_).c (by omega) (by omega)).2.1 (by omega) (by omega) (rgn (p.ins at_).c (by omega) (by omega)).2.2 ⟨_, _, _, rfl⟩
 by_cases h6 : (p.ins at_).op = 6
 ·simp [h6] at hI
  have e0 : J0f p (p.ins at_) s = ((s (p.ins at_).a.toNat).s && !p.sec (p.ins at_).c.toNat) := by unfold J0f; simp [h6]
  rw [e0, h6]
  exact Jh9 lo.ra p.rl lo.rc (.slice lo.ca p.cl lo.cc) g c (p.ins at_).a (p.ins at_).b (p.ins at_).c (p.ins at_).n w zg _ _ (by omega) (by omega) (reg (p.ins at_).a (by omega) (by omega)) lo.rb lo.ro (rgn (p.ins at_).c (by omega) (by omega)).1 (rgn (p.ins at_).c (by omega) (by omega)).2.1 (by omega) (by omega) (rgn (p.ins at_).c (by omega) (by omega)).2.2 ⟨_, _, _, rfl⟩
 by_cases h8 : (p.ins at_).op = 8
 ·simp [h8] at hI
  have e0 : J0f p (p.ins at_) s = ((s (p.ins at_).a.toNat).s || (s (p.ins at_).b.toNat).s) := by unfold J0f; simp [h8]
  rw [e0, h8]
  exact Jha lo.ra p.rl lo.rc (.slice lo.ca p.cl lo.cc) g c (p.ins at_).a (p.ins at_).b (p.ins at_).c (p.ins at_).n w zg _ _ (by omega) (by omega) (reg (p.ins at_).a (by omega) (by omega)) (by omega) (by omega) (reg (p.ins at_).b (by omega) (by omega)) ⟨_, _, _, rfl⟩
 by_cases h29 : (p.ins at_).op = 29
 ·simp [h29] at hI
  have e0 : J0f p (p.ins at_) s = ((s (p.ins at_).b.toNat).s || (s (p.ins at_).c.toNat).s) := by unfold J0f; simp [h29]
  rw [e0, h29]
  exact Jeh lo.ra p.rl lo.rc (.slice lo.ca p.cl lo.cc) g c (p.ins at_).a (p.ins at_).b (p.ins at_).c (p.ins at_).n w zg _ _ (by omega) (by omega) (reg (p.ins at_).b (by omega) (by omega)) (by omega) (by omega) (reg (p.ins at_).c (by omega) (by omega)) ⟨_, _, _, rfl⟩
 by_cases h30 : (p.ins at_).op = 30
 ·simp [h30] at hI
  have e0 : J0f p (p.ins at_) s = ((s (p.ins at_).b.toNat).s || (s (p.ins at_).c.toNat).s) := by unfold J0f; simp [h30]
  rw [e0, h30]
  exact Jei lo.ra p.rl lo.rc (.slice lo.ca p.cl lo.cc) g c (p.ins at_).a (p.ins at_).b (p.ins at_).c (p.ins at_).n w zg _ _ (by omega) (by omega) (reg (p.ins at_).b (by omega) (by omega)) (by omega) (by omega) (reg (p.ins at_).c (by omega) (by omega)) ⟨_, _, _, rfl⟩
 by_cases h9 : (p.ins at_).op = 9
 ·simp [h9] at hI
  have e0 : J0f p (p.ins at_) s = (s (p.ins at_).a.toNat).s := by unfold J0f; simp [h9]
  rw [e0, h9]
  exact Jhb lo.ra p.rl lo.rc (.slice lo.ca p.cl lo.cc) g c (p.ins at_).a (p.ins at_).b (p.ins at_).c (p.ins at_).n w zg _ (by omega) (by omega) (reg (p.ins at_).a (by omega) (by omega)) ⟨_, _, _, rfl⟩
 ·have e0 : J0f p (p.ins at_) s = false := by unfold J0f; simp [h3, h4, h6, h8, h29, h30, h9]
  rw [e0]
  exact J9c lo.ra p.rl lo.rc (.slice lo.ca p.cl lo.cc) g c (p.ins at_).op (p.ins at_).a (p.ins at_).b (p.ins at_).c (p.ins at_).n w zg h3 h4 h6 h8 h29 h30 h9 ⟨_, _, _, rfl⟩
theorem Jj8 {p : Prg} {at_ : Nat} (hi : InsOk p.rl p.log p.cl 8 (p.ins at_)) (s : KS) : (∃ (i : Nat) (x : Nat × KS), (J0d p at_ s)[i]? = some x ∧ p.cl ≤ x.1) ↔ outK p at_ = true := by
 unfold outK
 have hI := hi
 unfold InsOk Plc at hI
 constructor
 ·rintro ⟨i, x, hx, hc⟩
  have hm := List.mem_of_getElem? hx
  unfold J0d at hm
  by_cases h7 : (p.ins at_).op = 7
  ·rw [if_pos h7] at hm
   simp [h7] at hI
   simp at hm; subst hm; dsimp only at hc; omega
  rw [if_neg h7] at hm
  by_cases h9 : (p.ins at_).op = 9
  ·rw [if_pos h9] at hm; simp at hm
  rw [if_neg h9] at hm
  by_cases h8 : (p.ins at_).op = 8
  ·rw [if_pos h8] at hm
   simp [h8] at hI
   simp at hm
   rcases hm with rfl | rfl
   ·dsimp only at hc; omega
   ·simp [h7, h9]; exact hc
  ·rw [if_neg h8] at hm
   simp at hm; subst hm
   simp [h7, h9]; exact hc
 ·intro h
  simp at h
  obtain ⟨h7, h9, hc⟩ := h
  unfold J0d
  rw [if_neg h7, if_neg h9]
  by_cases h8 : (p.ins at_).op = 8
  ·rw [if_pos h8]; exact ⟨1, _, rfl, hc⟩
  ·rw [if_neg h8]; exact ⟨0, _, rfl, hc⟩

abbrev flt (c a : Int) : Value := .agg #[.int .i64 c, .int .i64 a]

theorem J9o (rv cv : Value) (hrv : ∃ a n c, rv = .slice a n c) (hcv : ∃ a n c, cv = .slice a n c) (w : World) (cm : ∀ w1 : World, More w w1 → Calls Try.prog 22 #[.agg #[rv, cv]] w1 fun e w' => e = .returned (.bool false) ∧ More w1 w') :
  Calls Try.prog 7 #[.agg #[rv, cv]] w fun e w' => e = .returned (flt 2 0) ∧ More w w' := by
 obtain ⟨a, n, c, rfl⟩ := hrv
 obtain ⟨a2, n2, c2, rfl⟩ := hcv
 unfold flt
 go_enter Try.func7, Try.ntmps7
 go_wp2_with (fail)
 refine (cm _ (((More.refl _).alloc _ _).alloc _ _)).mono ?_
 rintro e w1 ⟨rfl, m1⟩
 have Hres : Hid (Blk w1 (w.heap.size + 1) #[.int .i64 0, .int .i64 0] 28) := (by simpa using Blk.last (w.alloc (.cells #[.slice a n c, .slice a2 n2 c2] 25)) #[.int .i64 0, .int .i64 0] 28 : Blk ((w.alloc (.cells #[.slice a n c, .slice a2 n2 c2] 25)).alloc (.cells #[.int .i64 0, .int .i64 0] 28)) (w.heap.size + 1) #[.int .i64 0, .int .i64 0] 28).more m1
 have Hm1 : Hid (More w w1) := (((More.refl _).alloc _ _).alloc _ _).trans m1
 clear m1
 have t0 := Hres.out.cell (j := 0) (v := .int .i64 0) rfl
 have t1 := Hres.out.cell (j := 1) (v := .int .i64 0) rfl
 have u0 := Hres.out.frozen 0
 have u1 := Hres.out.frozen 1
 go_wp2
 exact bodyPost_ret (by simp [results, Try.results7, go_sem, *]) rfl ⟨rfl, (Hm1.out.setCell (by dsimp only; omega) _).setCell (by dsimp only; omega) _⟩

set_option maxHeartbeats 8000000 in
theorem Jcs (p : Prg) (lo : Loc) (w : World) (hp : PIn w p lo) (hok : p.Ok 200 8) (hn : ∀ i, i < p.cl → -9223372036854775808 ≤ (p.ins i).n ∧ (p.ins i).n ≤ 9223372036854775807)
  (cm : ∀ w1 : World, More w w1 → Calls Try.prog 22 #[.agg #[.slice lo.ra p.rl lo.rc, .slice lo.ca p.cl lo.cc]] w1 fun e w' => e = .returned (.bool true) ∧ More w1 w') :
  Calls Try.prog 7 #[.agg #[.slice lo.ra p.rl lo.rc, .slice lo.ca p.cl lo.cc]] w fun e w' => ∃ l, Known p l ∧ e = .returned (flt (J0c p l).1 (J0c p l).2) ∧ More w w' := by
 suffices hP : ∀ P : Ending → World → Prop, (∀ l, Known p l → ∀ w', More w w' → P (.returned (flt (J0c p l).1 (J0c p l).2)) w') → Calls Try.prog 7 #[.agg #[.slice lo.ra p.rl lo.rc, .slice lo.ca p.cl lo.cc]] w P from hP _ (fun l h1 w' h2 => ⟨l, h1, rfl, h2⟩)
 intro P hP0
 have HP : Hid (∀ l, Known p l → ∀ w', More w w' → P (.returned (flt (J0c p l).1 (J0c p l).2)) w') := hP0
 have H : Hid (PIn w p lo ∧ p.Ok 200 8 ∧ ∀ i, i < p.cl → -9223372036854775808 ≤ (p.ins i).n ∧ (p.ins i).n ≤ 9223372036854775807) := ⟨hp, hok, hn⟩
 have h1 : 1 ≤ p.cl := hok.2.1
 have h2 : p.cl ≤ 200 := hok.2.2.1
 have hi1 : (1 : Int) ≤ p.cl := by omega
 have hi2 : (p.cl : Int) ≤ 200 := by omega
 clear hP0 hp hok hn
 have HS0 : Hid (∀ w1 : World, More w w1 → Calls Try.prog 23 #[.agg #[.slice lo.ra p.rl lo.rc, .slice lo.ca p.cl lo.cc]] w1 fun e w' => ∃ lb l, e = .returned (.slice (some ⟨lb, 0, none⟩) p.cl p.cl) ∧ VAt w' lb p.cl l ∧ Known p l ∧ More w1 w') := fun w1 m => J9g p lo w1 (H.out.1.more m) H.out.2.1 H.out.2.2
 obtain ⟨cl, hcl⟩ : ∃ cl, p.cl = cl := ⟨_, rfl⟩
 have Hcl : Hid (p.cl = cl) := hcl
 rw [hcl] at h1 h2 hi1 hi2 cm ⊢
 have HSt : Hid (∀ w1 : World, More w w1 → Calls Try.prog 23 #[.agg #[.slice lo.ra p.rl lo.rc, .slice lo.ca cl lo.cc]] w1 fun e w' => ∃ lb l, e = .returned (.slice (some ⟨lb, 0, none⟩) cl cl) ∧ VAt w' lb p.cl l ∧ Known p l ∧ More w1 w') := by
  have := HS0.out
  rw [hcl] at this
  rw [hcl]; exact this
 have Hcm : Hid (∀ w1 : World, More w w1 → Calls Try.prog 22 #[.agg #[.slice lo.ra p.rl lo.rc, .slice lo.ca cl lo.cc]] w1 fun e w' => e = .returned (.bool true) ∧ More w1 w') := cm
 clear hcl HS0 cm
 obtain ⟨ra, rb, ro, rc, ca, cb, co, cc⟩ := lo
 dsimp only at HSt Hcm ⊢
 obtain rfl : ca = some ⟨cb, co, none⟩ := H.out.1.hc (by have := Hcl.out; omega)
 obtain ⟨W0, HW0⟩ : ∃ W0 : World, Hid (W0 = (w.alloc (.cells #[.slice ra p.rl rc, .slice (some ⟨cb, co, none⟩) cl cc] 25)).alloc (.cells #[.int .i64 0, .int .i64 0] 28)) := ⟨_, rfl⟩
 have HM0 : Hid (More w W0) := HW0.out ▸ ((More.refl _).alloc _ _).alloc _ _
 have HBX : Hid (Blk W0 w.heap.size #[.slice ra p.rl rc, .slice (some ⟨cb, co, none⟩) cl cc] 25) := HW0.out ▸ (Blk.last _ _ _).more ((More.refl _).alloc _ _)
 have HRES : Hid (Blk W0 (w.heap.size + 1) #[.int .i64 0, .int .i64 0] 28) := by
  show Blk _ _ _ _
  rw [HW0.out]
  simpa using Blk.last (w.alloc (.cells #[.slice ra p.rl rc, .slice (some ⟨cb, co, none⟩) cl cc] 25)) #[.int .i64 0, .int .i64 0] 28
 go_enter Try.func7, Try.ntmps7
 go_wp2_with (fail)
 rw [← HW0.out]
 refine (Hcm.out _ HM0.out).mono ?_
 rintro e w1 ⟨rfl, m1⟩
 have HM1 : Hid (More W0 w1) := m1
 clear m1
 have p0 : w1.cell? ⟨w.heap.size, 0, none⟩ = some (.slice ra p.rl rc) := (HBX.out.more HM1.out).cell rfl
 have p1 : w1.cell? ⟨w.heap.size, 1, none⟩ = some (.slice (some ⟨cb, co, none⟩) cl cc) := (HBX.out.more HM1.out).cell rfl
 go_wp2_with (fail)
 refine (HSt.out _ (HM0.out.trans HM1.out)).mono ?_
 rintro e w2 ⟨lb, L, rfl, hv, hkn, m2⟩
 have HV2 : Hid (VAt w2 lb p.cl L ∧ Known p L) := ⟨hv, hkn⟩
 have HM2 : Hid (More W0 w2) := HM1.out.trans m2
 clear m2 hv hkn p0 p1
 go_wp2_with (fail)
 go_loopg [4] cl (fun g iv wr => ∃ k : Nat, k + g = cl ∧ iv = .int .i64 k ∧ Hid (More w2 wr ∧ J0c p L = scanK p L g k))
 case atStart => exact ⟨0, by omega, rfl, More.refl _, by unfold J0c; rw [Hcl.out]⟩
 case round =>
  obtain ⟨k, hkg, rfl, HR⟩ := hrel
  obtain ⟨wm, rfl⟩ : ∃ wm, wm = wr := ⟨wr, rfl⟩
  have HMm : Hid (More W0 wm) := HM2.out.trans HR.out.1
  have HVm : Hid (VAt wm lb p.cl L) := HV2.out.1.more HR.out.1 (by have := Hcl.out; omega)
  have Hsc : Hid (J0c p L = scanK p L gk k) := HR.out.2
  have HMw : Hid (More w2 wm) := HR.out.1
  clear HR
  cases gk with
  | zero =>
   have He : Hid (J0c p L = (0, 0)) := Hsc.out
   clear Hsc
   have t0 := (HRES.out.more HMm.out).cell (j := 0) (v := .int .i64 0) rfl
   have t1 := (HRES.out.more HMm.out).cell (j := 1) (v := .int .i64 0) rfl
   have u0 := (HRES.out.more HMm.out).frozen 0
   have u1 := (HRES.out.more HMm.out).frozen 1
   go_wp2
   refine bodyPost_ret (v := flt 0 0) (by simp [flt, results, Try.results7, go_sem, *]) rfl ?_
   have hE := HP.out L HV2.out.2 _ (((HM0.out.trans HMm.out).setCell (a := ⟨w.heap.size + 1, 0, none⟩) (by dsimp only; omega) (.int .i64 0)).setCell (a := ⟨w.heap.size + 1, 1, none⟩) (by dsimp only; omega) (.int .i64 0))
   rw [He.out] at hE
   exact hE
  | succ g =>
   have hk : k < cl := by omega
   have hki : (k : Int) < cl := by omega
   have hca := HVm.out.at_ k (by rw [Hcl.out]; exact hk)
   cases eL : L k with
   | none =>
    rw [eL] at hca
    have c0 := hca.1
    have Hn2 : Hid (J0c p L = scanK p L g (k + 1)) := by show _ = _; rw [Hsc.out]; simp only [scanK, eL]
    clear hca eL Hsc
    go_wp2
    go_roundg g
    case measure => omega
    case rel => exact ⟨k + 1, by omega, by first | rfl | simp, HMw.out, Hn2.out⟩
   | some s =>
    rw [eL] at hca
    obtain ⟨gs, cs, c0, c1, hks, hgne⟩ := hca
    have Hks : Hid (KRow wm gs s) := hks
    have Hpk : Hid (k < p.cl) := by show _ < _; rw [Hcl.out]; exact hk
    have Hi : Hid (InsOk p.rl p.log p.cl 8 (p.ins k)) := H.out.2.1.2.2.2 k Hpk.out
    have Hn2 : Hid (J0c p L = if J0r p k s = 0 then scanK p L g (k + 1) else (J0r p k s, (k : Int))) := by show _ = _; rw [Hsc.out]; simp only [scanK, eL]
    have Hout : Hid ((∃ (i : Nat) (x : Nat × KS), (J0d p k s)[i]? = some x ∧ p.cl ≤ x.1) ↔ outK p k = true) := Jj8 Hi.out s
    clear eL hks hgne Hsc
    have q := (H.out.1.more (HM0.out.trans HMm.out)).code k Hpk.out
    obtain ⟨q0, q1, q2, q3, q4⟩ := q
    obtain ⟨i, hi⟩ : ∃ i, p.ins k = i := ⟨_, rfl⟩
    rw [hi] at q0 q1 q2 q3 q4
    have HI : Hid (p.ins k = i) := hi
    clear hi
    obtain ⟨op, a, b, ic, n⟩ := i
    dsimp only at q0 q1 q2 q3 q4
    have p0 : wm.cell? ⟨w.heap.size, 0, none⟩ = some (.slice ra p.rl rc) := (HBX.out.more HMm.out).cell rfl
    have p1 : wm.cell? ⟨w.heap.size, 1, none⟩ = some (.slice (some ⟨cb, co, none⟩) cl cc) := (HBX.out.more HMm.out).cell rfl
    obtain ⟨W8, HW8⟩ : ∃ W8 : World, Hid (W8 = wm.alloc (.cells #[.int .i64 op, .int .i64 a, .int .i64 b, .int .i64 ic, .int .i64 n] 59)) := ⟨_, rfl⟩
    have HM8 : Hid (More wm W8) := HW8.out ▸ (More.refl _).alloc _ _
    have HB8 : Hid (Blk W8 wm.heap.size #[.int .i64 op, .int .i64 a, .int .i64 b, .int .i64 ic, .int .i64 n] 59) := HW8.out ▸ Blk.last _ _ _
    obtain ⟨S, HS⟩ : ∃ S : World → Prop, Hid (∀ w', S w' ↔ More W8 w') := ⟨_, fun _ => Iff.rfl⟩
    have HSd : S W8.drew := (HS.out _).2 (More.refl _).drew
    have hne : Nonempty { w' // S w' } := ⟨⟨_, HSd⟩⟩
    have k0 : ∀ i : { w' // S w' }, i.val.cell? ⟨lb, k * 2, none⟩ = some (.bool true) := fun i => (HM8.out.trans ((HS.out _).1 i.property)).cell c0
    have k1 : ∀ i : { w' // S w' }, i.val.cell? ⟨lb, k * 2 + 1, none⟩ = some (.slice (some ⟨gs, 0, none⟩) 8 cs) := fun i => (HM8.out.trans ((HS.out _).1 i.property)).cell c1
    have k2 : ∀ i : { w' // S w' }, i.val.cell? ⟨w.heap.size, 0, none⟩ = some (.slice ra p.rl rc) := fun i => (HM8.out.trans ((HS.out _).1 i.property)).cell p0
    have k3 : ∀ i : { w' // S w' }, i.val.cell? ⟨w.heap.size, 1, none⟩ = some (.slice (some ⟨cb, co, none⟩) cl cc) := fun i => (HM8.out.trans ((HS.out _).1 i.property)).cell p1
    have Hld : Hid (∀ w1 : World, More wm w1 → Calls Try.prog 24 #[.agg #[.slice ra p.rl rc, .slice (some ⟨cb, co, none⟩) cl cc], .int .i64 k, st true gs cs] w1 fun e w' => ∃ v, e = .returned v ∧ LdAt w' w1.heap.size v (J0d p k s) ∧ More w1 w') := fun w1 m => by
     have := J6a p ⟨ra, rb, ro, rc, some ⟨cb, co, none⟩, cb, co, cc⟩ k gs cs s w1 (H.out.1.more ((HM0.out.trans HMm.out).trans m)) Hpk.out H.out.2.1.2.2.1 Hi.out (H.out.2.2 k Hpk.out).1 (H.out.2.2 k Hpk.out).2 (Hks.out.more m)
     dsimp only at this
     rw [Hcl.out] at this
     exact this
    have zb := J05 p0
    have zc := J05 q0
    have zl := J05 c0
    dsimp only at zb zc zl
    go_wp2_with (fail)
    rw [← HW8.out]
    refine J01 (S := S) [(0, true), (1, true), (2, true), (3, true), (4, true), (5, true), (6, false), (7, true)] (by kernel_rfl) (by kernel_rfl) (by kernel_rfl) HSd ?_
    iterate 6 (refine J00 rfl (by kernel_rfl) (fun K hK => ?_); go_simp; refine hK _ _ ?_; clear hK K)
    refine J02 rfl (by kernel_rfl) (fun K hK => ?_); go_simp
    refine (Hld.out _ (HM8.out.drew)).mono ?_
    rintro e w3 ⟨lv, rfl, hlv, m3⟩
    have HM3 : Hid (More W8 w3) := (More.refl _).drew.trans m3
    have HS3 : S w3 := (HS.out _).2 HM3.out
    obtain ⟨ls, hls⟩ : ∃ ls, J0d p k s = ls := ⟨_, rfl⟩
    rw [hls] at hlv
    have Hls : Hid ((∃ (i : Nat) (x : Nat × KS), ls[i]? = some x ∧ p.cl ≤ x.1) ↔ outK p k = true) := by have := Hout.out; rw [hls] at this; exact this
    clear hls Hout
    obtain ⟨la, lbk, lcap, rfl, hla, _, hl2, hcells⟩ := hlv
    obtain ⟨nl, hnl⟩ : ∃ nl, ls.length = nl := ⟨_, rfl⟩
    rw [hnl] at hla hl2 ⊢
    have Hce : Hid (∀ j x, ls[j]? = some x → w3.cell? ⟨lbk, j * 3, none⟩ = some (.int .i64 (x.1 : Int))) := fun j x hx => by obtain ⟨_, _, q, _⟩ := hcells j x hx; exact q
    have Hnl : Hid (ls.length = nl ∧ (0 < nl → la = some ⟨lbk, 0, none⟩)) := ⟨hnl, hla⟩
    clear m3 hnl hla hcells
    go_simp
    refine hK _ _ HS3 ?_; clear hK K
    (refine J00 rfl (by kernel_rfl) (fun K hK => ?_); go_simp; refine hK _ _ ?_; clear hK K)
    refine J04 ?_
    clear k0 k1 k2 k3 hne HSd HS3 q0 q1 q2 q3 q4 zb zc zl
    go_wp2_with (fail)
    go_loopg [7, 8] nl (fun g3 bv iv wr3 => ∃ (j : Nat) (bb : Bool), j + g3 = nl ∧ iv = .int .i64 j ∧ bv = .bool bb ∧ wr3 = w3 ∧ Hid (bb = true ↔ ∃ (i : Nat) (x : Nat × KS), i < j ∧ ls[i]? = some x ∧ p.cl ≤ x.1))
    case atStart => exact ⟨0, false, by omega, rfl, rfl, rfl, ⟨fun h => absurd h (by simp), fun ⟨i, x, h, _⟩ => absurd h (Nat.not_lt_zero _)⟩⟩
    case round =>
     obtain ⟨j, bb, hjg, rfl, rfl, rfl, HJ⟩ := hrel
     obtain ⟨w3, rfl⟩ : ∃ w3, w3 = wr := ⟨wr, rfl⟩
     cases gk with
     | succ g3 =>
      have hj : j < nl := by omega
      have hji : (j : Int) < nl := by omega
      have hnli : (nl : Int) ≤ 2 := by omega
      obtain ⟨x, hx⟩ : ∃ x, ls[j]? = some x := ⟨ls[j]'(by rw [Hnl.out.1]; exact hj), List.getElem?_eq_getElem _⟩
      obtain rfl : la = some ⟨lbk, 0, none⟩ := Hnl.out.2 (by omega)
      have l0 := Hce.out j x hx
      have Hx : Hid (ls[j]? = some x) := hx
      obtain ⟨xto, xs⟩ := x
      dsimp only at l0
      clear hx
      obtain ⟨dd, hdd⟩ : ∃ d, decide (cl ≤ xto) = d := ⟨_, rfl⟩
      have Hnx : Hid ((bb || dd) = true ↔ ∃ (i : Nat) (x : Nat × KS), i < j + 1 ∧ ls[i]? = some x ∧ p.cl ≤ x.1) := by
       rw [Bool.or_eq_true, HJ.out]
       constructor
       ·rintro (⟨i, x, h1, h2, h3⟩ | h)
        ·exact ⟨i, x, by omega, h2, h3⟩
        ·refine ⟨j, _, by omega, Hx.out, ?_⟩
         rw [← hdd, decide_eq_true_eq] at h
         have := Hcl.out
         dsimp only; omega
       ·rintro ⟨i, x, h1, h2, h3⟩
        by_cases e : i = j
        ·subst e
         rw [Hx.out] at h2
         cases h2
         right
         rw [← hdd, decide_eq_true_eq]
         have := Hcl.out
         dsimp only at h3; omega
        ·exact .inl ⟨i, x, by omega, h2, h3⟩
      clear HJ
      cases bb
      ·simp only [Bool.false_or] at Hnx
       go_wp2
       go_roundg g3
       case measure => omega
       case rel => exact ⟨j + 1, dd, by omega, by first | rfl | simp, rfl, rfl, Hnx.out⟩
      ·simp only [Bool.true_or] at Hnx
       clear hdd
       go_wp2
       go_roundg g3
       case measure => omega
       case rel => exact ⟨j + 1, true, by omega, by first | rfl | simp, rfl, rfl, ⟨fun _ => Hnx.out.1 trivial, fun _ => rfl⟩⟩
     | zero =>
      have HO : Hid (bb = outK p k) := by
       show _ = _
       rw [Bool.eq_iff_iff, HJ.out, ← Hls.out]
       constructor
       ·rintro ⟨i, x, _, h2, h3⟩; exact ⟨i, x, h2, h3⟩
       ·rintro ⟨i, x, h2, h3⟩
        have : i < ls.length := (List.getElem?_eq_some_iff.1 h2).1
        exact ⟨i, x, by rw [Hnl.out.1] at this; omega, h2, h3⟩
      clear HJ
      obtain ⟨sc, hsc⟩ : ∃ x, J0f p (p.ins k) s = x := ⟨_, rfl⟩
      have Hsc2 : Hid (J0f p (p.ins k) s = sc) := hsc
      have Csec : Hid (∀ w1 : World, More wm w1 → Calls Try.prog 26 #[.agg #[.slice ra p.rl rc, .slice (some ⟨cb, co, none⟩) cl cc], .agg #[.int .i64 op, .int .i64 a, .int .i64 b, .int .i64 ic, .int .i64 n], .slice (some ⟨gs, 0, none⟩) 8 cs] w1 fun e w' => e = .returned (.bool sc) ∧ More w1 w') := fun w1 m => by
       have := J9b p ⟨ra, rb, ro, rc, some ⟨cb, co, none⟩, cb, co, cc⟩ k gs cs s w1 (H.out.1.more ((HM0.out.trans HMm.out).trans m)) Hi.out (Hks.out.more m)
       rw [hsc, HI.out] at this
       dsimp only at this
       rw [Hcl.out] at this
       exact this
      clear hsc
      have HB3 : Hid (Blk w3 wm.heap.size #[.int .i64 op, .int .i64 a, .int .i64 b, .int .i64 ic, .int .i64 n] 59) := HB8.out.more HM3.out
      have i0 : w3.cell? ⟨wm.heap.size, 0, none⟩ = some (.int .i64 op) := HB3.out.cell rfl
      have Hrf : Hid (More w3 w3) := More.refl _
      by_cases hop : op = 3 ∨ op = 4
      ·-- a word at an index
       rcases hop with rfl | rfl
       all_goals
        have hI := Hi.out
        unfold InsOk Reg Rgn at hI
        rw [HI.out] at hI
        simp at hI
        obtain rfl : ra = some ⟨rb, ro, none⟩ := H.out.1.hr (by omega)
        obtain ⟨lg, hlg⟩ : ∃ x, p.log ic.toNat = x := ⟨_, rfl⟩
        have Hlg : Hid (∀ w' : World, More wm w' → w'.cell? ⟨rb, ro + ic.toNat * 2, none⟩ = some (.int .i64 lg)) := fun w' m => by
         have := ((H.out.1.more ((HM0.out.trans HMm.out).trans m)).regs ic.toNat (by omega)).1
         rw [hlg] at this; exact this
        obtain ⟨xb, hxb⟩ : ∃ x, s b.toNat = x := ⟨_, rfl⟩
        obtain ⟨v, hv⟩ : ∃ v, Kn.index xb n = v := ⟨_, rfl⟩
        have hnn := H.out.2.2 k Hpk.out
        rw [HI.out] at hnn
        dsimp only at hnn
        have Cix : Hid (∀ w : World, Calls Try.prog 25 #[kn xb.b xb.s, .int .i64 n] w fun e w' => e = .returned (kn v.b v.s) ∧ More w w') := fun w => hv ▸ J65 xb n hnn.1 hnn.2 w
        have HbK : Hid (J19 p (p.ins k) s = (decide (n < 0) || decide (lg < v.b))) := by
         show _ = _
         unfold J19; rw [HI.out]; dsimp only
         rw [hxb, hv, hlg]; simp
        have b0 : 0 ≤ b := by omega
        have b1 : b < 8 := by omega
        have ic0 : 0 ≤ ic := by omega
        have ic1 : ic < p.rl := by omega
        have Hxb : Hid (s b.toNat = ⟨xb.b, xb.s⟩) := hxb
        clear hlg hxb hv hI hnn
        obtain ⟨vb, vs⟩ := v
        obtain ⟨xbb, xbs⟩ := xb
        unfold kn at Cix
        dsimp only at Cix HbK Hxb
        obtain ⟨T, HT⟩ : ∃ T : World → Prop, Hid (∀ w', T w' ↔ More w3 w') := ⟨_, fun _ => Iff.rfl⟩
        have HT0 : T w3.drew := (HT.out _).2 (More.refl _).drew
        have hneT : Nonempty { w' // T w' } := ⟨⟨_, HT0⟩⟩
        have HMt : Hid (More wm w3) := HM8.out.trans HM3.out
        have k0 : ∀ i : { w' // T w' }, i.val.cell? ⟨lb, k * 2 + 1, none⟩ = some (.slice (some ⟨gs, 0, none⟩) 8 cs) := fun i => (HMt.out.trans ((HT.out _).1 i.property)).cell c1
        have k1 : ∀ i : { w' // T w' }, i.val.cell? ⟨gs, b.toNat * 2, none⟩ = some (.int .i64 xbb) := fun i => by have := ((Hks.out.more (HMt.out.trans ((HT.out _).1 i.property))) b.toNat (by omega)).1.1; rw [Hxb.out] at this; exact this
        have k2 : ∀ i : { w' // T w' }, i.val.cell? ⟨gs, b.toNat * 2 + 1, none⟩ = some (.bool xbs) := fun i => by have := ((Hks.out.more (HMt.out.trans ((HT.out _).1 i.property))) b.toNat (by omega)).1.2; rw [Hxb.out] at this; exact this
        have k3 : ∀ i : { w' // T w' }, i.val.cell? ⟨wm.heap.size, 2, none⟩ = some (.int .i64 b) := fun i => (HB3.out.more ((HT.out _).1 i.property)).cell rfl
        have k4 : ∀ i : { w' // T w' }, i.val.cell? ⟨wm.heap.size, 4, none⟩ = some (.int .i64 n) := fun i => (HB3.out.more ((HT.out _).1 i.property)).cell rfl
        have k5 : True := trivial
        have k6 : True := trivial
        have k7 : True := trivial
        go_wp2_with (fail)
        clear i0
        refine J1j (S := T) (by kernel_rfl) HT0 ?_
        refine J07 0 rfl (by kernel_rfl) HT0 (by kernel_rfl) (fun K hK => ?_); go_simp; refine hK _ _ ?_; clear hK K
        refine J07 1 rfl (by kernel_rfl) HT0 (by kernel_rfl) (fun K hK => ?_); go_simp; refine hK _ _ ?_; clear hK K
        refine J07 2 rfl (by kernel_rfl) HT0 (by kernel_rfl) (fun K hK => ?_); go_simp; refine hK _ _ ?_; clear hK K
        refine J07 3 rfl (by kernel_rfl) HT0 (by kernel_rfl) (fun K hK => ?_); go_simp; refine hK _ _ ?_; clear hK K
        refine J07 4 rfl (by kernel_rfl) HT0 (by kernel_rfl) (fun K hK => ?_); go_simp; refine hK _ _ ?_; clear hK K
        refine J07 5 rfl (by kernel_rfl) HT0 (by kernel_rfl) (fun K hK => ?_); go_simp; refine hK _ _ ?_; clear hK K
        refine J07 6 rfl (by kernel_rfl) HT0 (by kernel_rfl) (fun K hK => ?_); go_simp; refine hK _ _ ?_; clear hK K
        refine J07 7 rfl (by kernel_rfl) HT0 (by kernel_rfl) (fun K hK => ?_); go_simp; refine hK _ _ ?_; clear hK K
        refine J07 8 rfl (by kernel_rfl) HT0 (by kernel_rfl) (fun K hK => ?_); go_simp; refine hK _ _ ?_; clear hK K
        refine J07 9 rfl (by kernel_rfl) HT0 (by kernel_rfl) (fun K hK => ?_); go_simp; refine hK _ _ ?_; clear hK K
        refine J07 10 rfl (by kernel_rfl) HT0 (by kernel_rfl) (fun K hK => ?_); go_simp; refine hK _ _ ?_; clear hK K
        refine J3k 11 12 (by kernel_rfl) ?_ ?_
        ·-- the call, then the new block
         refine J08 rfl (by kernel_rfl) (fun K hK => ?_); go_simp
         refine (Cix.out _).mono ?_
         rintro e w5 ⟨rfl, m5⟩
         have M5 : Hid (More w3 w5) := (More.refl _).drew.trans m5
         clear m5
         go_simp
         refine hK _ _ ((HT.out _).2 M5.out) ?_; clear hK K
         refine J0z 12 (by kernel_rfl) ?_
         refine J08 rfl (by kernel_rfl) (fun K hK => ?_); go_simp
         refine hK _ _ ((HT.out _).2 (M5.out.alloc _ _)) ?_; clear hK K
         refine J0z 13 (by kernel_rfl) ?_
         refine J08 rfl (by kernel_rfl) (fun K hK => ?_); go_simp
         obtain ⟨w6, Hw6⟩ : ∃ w6 : World, Hid (w6 = w5.alloc (.cells #[.int .i64 vb, .bool vs] 65)) := ⟨_, rfl⟩
         have HM6 : Hid (More w3 w6) := Hw6.out ▸ M5.out.alloc _ _
         obtain ⟨bx, Hbx⟩ : ∃ bx, Hid (bx = w5.heap.size) := ⟨_, rfl⟩
         have HB6 : Hid (Blk w6 bx #[.int .i64 vb, .bool vs] 65) := Hw6.out ▸ Hbx.out ▸ Blk.last _ _ _
         rw [← Hw6.out, ← Hbx.out]
         refine hK _ _ ((HT.out _).2 HM6.out) ?_; clear hK K
         refine J3w (by kernel_rfl) ?_
         clear k0 k1 k2 k3 k4 k5 k6 k7 hneT HT0
         have HMy : Hid (More wm w6) := (HM8.out.trans HM3.out).trans HM6.out
         have HBi : Hid (Blk w6 wm.heap.size #[.int .i64 _, .int .i64 a, .int .i64 b, .int .i64 ic, .int .i64 n] 59) := HB3.out.more HM6.out
         obtain ⟨X, HX⟩ : ∃ X : World → Prop, Hid (∀ w', X w' ↔ More w6 w') := ⟨_, fun _ => Iff.rfl⟩
         have HX0 : X w6.drew := (HX.out _).2 (More.refl _).drew
         have hneX : Nonempty { w' // X w' } := ⟨⟨_, HX0⟩⟩
         have x0 : ∀ i : { w' // X w' }, i.val.cell? ⟨bx, 0, none⟩ = some (.int .i64 vb) := fun i => (HB6.out.more ((HX.out _).1 i.property)).cell rfl
         have x1 : ∀ i : { w' // X w' }, i.val.cell? ⟨wm.heap.size, 4, none⟩ = some (.int .i64 n) := fun i => (HBi.out.more ((HX.out _).1 i.property)).cell rfl
         have x2 : ∀ i : { w' // X w' }, i.val.cell? ⟨wm.heap.size, 3, none⟩ = some (.int .i64 ic) := fun i => (HBi.out.more ((HX.out _).1 i.property)).cell rfl
         have x3 : ∀ i : { w' // X w' }, i.val.cell? ⟨w.heap.size, 0, none⟩ = some (.slice (some ⟨rb, ro, none⟩) p.rl rc) := fun i => (HMy.out.trans ((HX.out _).1 i.property)).cell p0
         have x4 : ∀ i : { w' // X w' }, i.val.cell? ⟨rb, ro + ic.toNat * 2, none⟩ = some (.int .i64 lg) := fun i => Hlg.out _ (HMy.out.trans ((HX.out _).1 i.property))
         have x5 : True := trivial
         go_wp2_with (fail)
         refine J01 (S := X) [(0, true), (1, true), (2, true), (3, true), (4, true), (5, true), (6, true), (7, true), (8, true), (9, true), (10, true), (11, true), (12, true), (13, true), (14, true), (15, true), (16, true), (17, true), (18, true)] (by kernel_rfl) (by kernel_rfl) (by kernel_rfl) HX0 ?_
         iterate 2 (refine J00 rfl (by kernel_rfl) (fun K hK => ?_); go_simp; refine hK _ _ ?_; clear hK K)
         cases bb with
         | true =>
          iterate 3 (refine J2a rfl HX0 (by kernel_rfl) (fun K hK => ?_); go_simp; refine hK _ _ ?_; clear hK K)
          refine J0s rfl rfl (by kernel_rfl) rfl (fun K hK => ?_); go_simp; refine hK _ _ ?_; clear hK K
          (refine J00 rfl (by kernel_rfl) (fun K hK => ?_); go_simp; refine hK _ _ ?_; clear hK K)
          iterate 10 (refine J2a rfl HX0 (by kernel_rfl) (fun K hK => ?_); go_simp; refine hK _ _ ?_; clear hK K)
          refine J0s rfl rfl (by kernel_rfl) rfl (fun K hK => ?_); go_simp; refine hK _ _ ?_; clear hK K
          (refine J00 rfl (by kernel_rfl) (fun K hK => ?_); go_simp; refine hK _ _ ?_; clear hK K)
          have Hck : Hid (J0c p L = (4, (k : Int))) := by
           show _ = _
           have hf : J0r p k s = 4 := by unfold J0r; rw [← HO.out]; rfl
           rw [Hn2.out, hf]; rfl
          refine J04 ?_
          clear x0 x1 x2 x3 x4 x5 hneX HX0
          have HMz : Hid (More W0 w6.drew) := (((HMm.out.trans HM8.out).trans HM3.out).trans HM6.out).drew
          have t0 : w6.cell? ⟨w.heap.size + 1, 0, none⟩ = some (.int .i64 0) := (HRES.out.more (((HMm.out.trans HM8.out).trans HM3.out).trans HM6.out)).cell rfl
          have t1 : w6.cell? ⟨w.heap.size + 1, 1, none⟩ = some (.int .i64 0) := (HRES.out.more (((HMm.out.trans HM8.out).trans HM3.out).trans HM6.out)).cell rfl
          have u0 : w6.frozen? ⟨w.heap.size + 1, 0, none⟩ = false := (HRES.out.more (((HMm.out.trans HM8.out).trans HM3.out).trans HM6.out)).frozen 0
          have u1 : w6.frozen? ⟨w.heap.size + 1, 1, none⟩ = false := (HRES.out.more (((HMm.out.trans HM8.out).trans HM3.out).trans HM6.out)).frozen 1
          go_wp2
          refine bodyPost_ret (v := flt 4 k) (by simp [flt, results, Try.results7, go_sem, *]) rfl ?_
          have hE := HP.out L HV2.out.2 _ (((HM0.out.trans (((HMm.out.trans HM8.out).trans HM3.out).trans HM6.out)).setCell (a := ⟨w.heap.size + 1, 0, none⟩) (by dsimp only; omega) (.int .i64 4)).setCell (a := ⟨w.heap.size + 1, 1, none⟩) (by dsimp only; omega) (.int .i64 k)).drew
          rw [Hck.out] at hE
          exact hE
         | false =>
          by_cases hn0 : n < 0
          ·have hdn : decide (n < 0) = true := by simp [hn0]
           have Hbd : Hid (J19 p (p.ins k) s = true) := by show _ = _; rw [HbK.out, hdn]; rfl
           iterate 3 (refine J00 rfl (by kernel_rfl) (fun K hK => ?_); go_simp; refine hK _ _ ?_; clear hK K)
           refine J0m rfl rfl (by kernel_rfl) rfl (fun K hK => ?_); go_simp; refine hK _ _ ?_; clear hK K
           (refine J00 rfl (by kernel_rfl) (fun K hK => ?_); go_simp; refine hK _ _ ?_; clear hK K)
           iterate 10 (refine J2a rfl HX0 (by kernel_rfl) (fun K hK => ?_); go_simp; refine hK _ _ ?_; clear hK K)
           refine J0s rfl rfl (by kernel_rfl) rfl (fun K hK => ?_); go_simp; refine hK _ _ ?_; clear hK K
           (refine J00 rfl (by kernel_rfl) (fun K hK => ?_); go_simp; refine hK _ _ ?_; clear hK K)
           have Hck : Hid (J0c p L = (4, (k : Int))) := by
            show _ = _
            have hf : J0r p k s = 4 := by unfold J0r; rw [Hbd.out, Bool.or_true]; rfl
            rw [Hn2.out, hf]; rfl
           refine J04 ?_
           clear x0 x1 x2 x3 x4 x5 hneX HX0
           have HMz : Hid (More W0 w6.drew) := (((HMm.out.trans HM8.out).trans HM3.out).trans HM6.out).drew
           have t0 : w6.cell? ⟨w.heap.size + 1, 0, none⟩ = some (.int .i64 0) := (HRES.out.more (((HMm.out.trans HM8.out).trans HM3.out).trans HM6.out)).cell rfl
           have t1 : w6.cell? ⟨w.heap.size + 1, 1, none⟩ = some (.int .i64 0) := (HRES.out.more (((HMm.out.trans HM8.out).trans HM3.out).trans HM6.out)).cell rfl
           have u0 : w6.frozen? ⟨w.heap.size + 1, 0, none⟩ = false := (HRES.out.more (((HMm.out.trans HM8.out).trans HM3.out).trans HM6.out)).frozen 0
           have u1 : w6.frozen? ⟨w.heap.size + 1, 1, none⟩ = false := (HRES.out.more (((HMm.out.trans HM8.out).trans HM3.out).trans HM6.out)).frozen 1
           go_wp2
           refine bodyPost_ret (v := flt 4 k) (by simp [flt, results, Try.results7, go_sem, *]) rfl ?_
           have hE := HP.out L HV2.out.2 _ (((HM0.out.trans (((HMm.out.trans HM8.out).trans HM3.out).trans HM6.out)).setCell (a := ⟨w.heap.size + 1, 0, none⟩) (by dsimp only; omega) (.int .i64 4)).setCell (a := ⟨w.heap.size + 1, 1, none⟩) (by dsimp only; omega) (.int .i64 k)).drew
           rw [Hck.out] at hE
           exact hE
          ·have hdn : decide (n < 0) = false := by simp [hn0]
           iterate 3 (refine J00 rfl (by kernel_rfl) (fun K hK => ?_); go_simp; refine hK _ _ ?_; clear hK K)
           refine J0m rfl rfl (by kernel_rfl) rfl (fun K hK => ?_); go_simp; refine hK _ _ ?_; clear hK K
           iterate 11 (refine J00 rfl (by kernel_rfl) (fun K hK => ?_); go_simp; refine hK _ _ ?_; clear hK K)
           refine J0m rfl rfl (by kernel_rfl) rfl (fun K hK => ?_); go_simp; refine hK _ _ ?_; clear hK K
           (refine J00 rfl (by kernel_rfl) (fun K hK => ?_); go_simp; refine hK _ _ ?_; clear hK K)
           by_cases hlv : lg < vb
           ·have Hbd : Hid (J19 p (p.ins k) s = true) := by show _ = _; rw [HbK.out, hdn, decide_eq_true hlv]; rfl
            have Hck : Hid (J0c p L = (4, (k : Int))) := by
             show _ = _
             have hf : J0r p k s = 4 := by unfold J0r; rw [Hbd.out, Bool.or_true]; rfl
             rw [Hn2.out, hf]; rfl
            refine J04 ?_
            clear x0 x1 x2 x3 x4 x5 hneX HX0
            have HMz : Hid (More W0 w6.drew) := (((HMm.out.trans HM8.out).trans HM3.out).trans HM6.out).drew
            have t0 : w6.cell? ⟨w.heap.size + 1, 0, none⟩ = some (.int .i64 0) := (HRES.out.more (((HMm.out.trans HM8.out).trans HM3.out).trans HM6.out)).cell rfl
            have t1 : w6.cell? ⟨w.heap.size + 1, 1, none⟩ = some (.int .i64 0) := (HRES.out.more (((HMm.out.trans HM8.out).trans HM3.out).trans HM6.out)).cell rfl
            have u0 : w6.frozen? ⟨w.heap.size + 1, 0, none⟩ = false := (HRES.out.more (((HMm.out.trans HM8.out).trans HM3.out).trans HM6.out)).frozen 0
            have u1 : w6.frozen? ⟨w.heap.size + 1, 1, none⟩ = false := (HRES.out.more (((HMm.out.trans HM8.out).trans HM3.out).trans HM6.out)).frozen 1
            go_wp2
            refine bodyPost_ret (v := flt 4 k) (by simp [flt, results, Try.results7, go_sem, *]) rfl ?_
            have hE := HP.out L HV2.out.2 _ (((HM0.out.trans (((HMm.out.trans HM8.out).trans HM3.out).trans HM6.out)).setCell (a := ⟨w.heap.size + 1, 0, none⟩) (by dsimp only; omega) (.int .i64 4)).setCell (a := ⟨w.heap.size + 1, 1, none⟩) (by dsimp only; omega) (.int .i64 k)).drew
            rw [Hck.out] at hE
            exact hE
           ·have hdl : decide (lg < vb) = false := by simp [hlv]
            have Hno : Hid ((outK p k || J19 p (p.ins k) s) = false) := by show _ = _; rw [← HO.out, HbK.out, hdn, hdl]; rfl
            refine J04 ?_
            clear x0 x1 x2 x3 x4 x5 hneX HX0
            have HMd : Hid (More w3 w6.drew) := HM6.out.drew
            obtain ⟨w7, Hw7⟩ : ∃ w7 : World, Hid (w7 = w6.drew) := ⟨_, rfl⟩
            have HMe : Hid (More w3 w7) := Hw7.out ▸ HMd.out
            rw [← Hw7.out]
            have HMx : Hid (More wm w7) := (HM8.out.trans HM3.out).trans HMe.out
            have HBx : Hid (Blk w7 wm.heap.size #[.int .i64 _, .int .i64 a, .int .i64 b, .int .i64 ic, .int .i64 n] 59) := (HB8.out.more HM3.out).more HMe.out
            obtain ⟨U, HU⟩ : ∃ U : World → Prop, Hid (∀ w', U w' ↔ More w7 w') := ⟨_, fun _ => Iff.rfl⟩
            have HU0 : U w7.drew := (HU.out _).2 (More.refl _).drew
            have hneU : Nonempty { w' // U w' } := ⟨⟨_, HU0⟩⟩
            have g0 : ∀ i : { w' // U w' }, i.val.cell? ⟨w.heap.size, 0, none⟩ = some (.slice (some ⟨rb, ro, none⟩) p.rl rc) := fun i => (HMx.out.trans ((HU.out _).1 i.property)).cell p0
            have g1 : ∀ i : { w' // U w' }, i.val.cell? ⟨w.heap.size, 1, none⟩ = some (.slice (some ⟨cb, co, none⟩) cl cc) := fun i => (HMx.out.trans ((HU.out _).1 i.property)).cell p1
            have g2 : ∀ i : { w' // U w' }, i.val.cell? ⟨lb, k * 2 + 1, none⟩ = some (.slice (some ⟨gs, 0, none⟩) 8 cs) := fun i => (HMx.out.trans ((HU.out _).1 i.property)).cell c1
            have g3 : ∀ i : { w' // U w' }, i.val.cell? ⟨wm.heap.size, 0, none⟩ = some (.int .i64 _) := fun i => (HBx.out.more ((HU.out _).1 i.property)).cell rfl
            have g4 : ∀ i : { w' // U w' }, i.val.cell? ⟨wm.heap.size, 1, none⟩ = some (.int .i64 a) := fun i => (HBx.out.more ((HU.out _).1 i.property)).cell rfl
            have g5 : ∀ i : { w' // U w' }, i.val.cell? ⟨wm.heap.size, 2, none⟩ = some (.int .i64 b) := fun i => (HBx.out.more ((HU.out _).1 i.property)).cell rfl
            have g6 : ∀ i : { w' // U w' }, i.val.cell? ⟨wm.heap.size, 3, none⟩ = some (.int .i64 ic) := fun i => (HBx.out.more ((HU.out _).1 i.property)).cell rfl
            have g7 : ∀ i : { w' // U w' }, i.val.cell? ⟨wm.heap.size, 4, none⟩ = some (.int .i64 n) := fun i => (HBx.out.more ((HU.out _).1 i.property)).cell rfl
            go_wp2_with (fail)
            refine J01 (S := U) [(0, true), (1, true), (2, true), (3, true), (4, true), (5, true), (6, true), (7, false)] (by kernel_rfl) (by kernel_rfl) (by kernel_rfl) HU0 ?_
            iterate 7 (refine J00 rfl (by kernel_rfl) (fun K hK => ?_); go_simp; refine hK _ _ ?_; clear hK K)
            refine J02 rfl (by kernel_rfl) (fun K hK => ?_); go_simp
            refine (Csec.out _ (HMx.out.drew)).mono ?_
            rintro e w9 ⟨rfl, m9⟩
            have HM9 : Hid (More w7 w9) := (More.refl _).drew.trans m9
            have HU9 : U w9 := (HU.out _).2 HM9.out
            clear m9
            cases sc with
            | true =>
             have Hck : Hid (J0c p L = (5, (k : Int))) := by
              show _ = _
              have hf : J0r p k s = 5 := by unfold J0r; rw [Hno.out, Hsc2.out]; rfl
              rw [Hn2.out, hf]; rfl
             go_simp
             refine hK _ _ HU9 ?_; clear hK K
             refine J04 ?_
             clear g0 g1 g2 g3 g4 g5 g6 g7 hneU HU0 HU9
             have t0 := (HRES.out.more ((HMm.out.trans HMx.out).trans HM9.out)).cell (j := 0) (v := .int .i64 0) rfl
             have t1 := (HRES.out.more ((HMm.out.trans HMx.out).trans HM9.out)).cell (j := 1) (v := .int .i64 0) rfl
             have u0 := (HRES.out.more ((HMm.out.trans HMx.out).trans HM9.out)).frozen 0
             have u1 := (HRES.out.more ((HMm.out.trans HMx.out).trans HM9.out)).frozen 1
             go_wp2
             refine bodyPost_ret (v := flt 5 k) (by simp [flt, results, Try.results7, go_sem, *]) rfl ?_
             have hE := HP.out L HV2.out.2 _ (((HM0.out.trans ((HMm.out.trans HMx.out).trans HM9.out)).setCell (a := ⟨w.heap.size + 1, 0, none⟩) (by dsimp only; omega) (.int .i64 5)).setCell (a := ⟨w.heap.size + 1, 1, none⟩) (by dsimp only; omega) (.int .i64 k))
             rw [Hck.out] at hE
             exact hE
            | false =>
             have Hck : Hid (J0c p L = scanK p L g (k + 1)) := by
              show _ = _
              have hf : J0r p k s = 0 := by unfold J0r; rw [Hno.out, Hsc2.out]; rfl
              rw [Hn2.out, if_pos hf]
             go_simp
             refine hK _ _ HU9 ?_; clear hK K
             refine J04 ?_
             clear g0 g1 g2 g3 g4 g5 g6 g7 hneU HU0 HU9
             go_wp2
             go_roundg g
             case measure => omega
             case rel => exact ⟨k + 1, by omega, by first | rfl | simp, (HMw.out.trans HMx.out).trans HM9.out, Hck.out⟩
        ·-- the new block, then the call
         refine J08 rfl (by kernel_rfl) (fun K hK => ?_); go_simp
         refine hK _ _ ((HT.out _).2 ((More.refl _).drew.alloc _ _)) ?_; clear hK K
         refine J0z 11 (by kernel_rfl) ?_
         refine J08 rfl (by kernel_rfl) (fun K hK => ?_); go_simp
         refine (Cix.out _).mono ?_
         rintro e w5 ⟨rfl, m5⟩
         have M5 : Hid (More w3 w5) := ((More.refl _).drew.alloc _ _).trans m5
         have HB5 : Hid (Blk w5 w3.heap.size #[.int .i64 0, .bool false] 65) := (Blk.last w3.drew _ _).more m5
         clear m5
         go_simp
         refine hK _ _ ((HT.out _).2 M5.out) ?_; clear hK K
         refine J0z 13 (by kernel_rfl) ?_
         have y0 := HB5.out.cell (j := 0) (v := .int .i64 0) rfl
         have y1 := HB5.out.cell (j := 1) (v := .bool false) rfl
         have y2 := HB5.out.frozen 0
         have y3 := HB5.out.frozen 1
         refine J08 rfl (by kernel_rfl) (fun K hK => ?_); go_simp
         obtain ⟨w6, Hw6⟩ : ∃ w6 : World, Hid (w6 = (w5.setCell ⟨w3.heap.size, 0, none⟩ (.int .i64 vb)).setCell ⟨w3.heap.size, 1, none⟩ (.bool vs)) := ⟨_, rfl⟩
         have HM6 : Hid (More w3 w6) := Hw6.out ▸ (M5.out.setCell (Nat.le_refl _) _).setCell (Nat.le_refl _) _
         obtain ⟨bx, Hbx⟩ : ∃ bx, Hid (bx = w3.heap.size) := ⟨_, rfl⟩
         have HB6 : Hid (Blk w6 bx #[.int .i64 vb, .bool vs] 65) := by
          show Blk _ _ _ _
          rw [Hw6.out, Hbx.out]
          have h1 := HB5.out
          unfold Blk at h1 ⊢
          simp [World.setCell, Array.getElem?_modify, h1]
         rw [← Hw6.out]
         simp only [← Hbx.out]
         clear y0 y1 y2 y3
         refine hK _ _ ((HT.out _).2 HM6.out) ?_; clear hK K
         refine J3w (by kernel_rfl) ?_
         clear k0 k1 k2 k3 k4 k5 k6 k7 hneT HT0
         have HMy : Hid (More wm w6) := (HM8.out.trans HM3.out).trans HM6.out
         have HBi : Hid (Blk w6 wm.heap.size #[.int .i64 _, .int .i64 a, .int .i64 b, .int .i64 ic, .int .i64 n] 59) := HB3.out.more HM6.out
         obtain ⟨X, HX⟩ : ∃ X : World → Prop, Hid (∀ w', X w' ↔ More w6 w') := ⟨_, fun _ => Iff.rfl⟩
         have HX0 : X w6.drew := (HX.out _).2 (More.refl _).drew
         have hneX : Nonempty { w' // X w' } := ⟨⟨_, HX0⟩⟩
         have x0 : ∀ i : { w' // X w' }, i.val.cell? ⟨bx, 0, none⟩ = some (.int .i64 vb) := fun i => (HB6.out.more ((HX.out _).1 i.property)).cell rfl
         have x1 : ∀ i : { w' // X w' }, i.val.cell? ⟨wm.heap.size, 4, none⟩ = some (.int .i64 n) := fun i => (HBi.out.more ((HX.out _).1 i.property)).cell rfl
         have x2 : ∀ i : { w' // X w' }, i.val.cell? ⟨wm.heap.size, 3, none⟩ = some (.int .i64 ic) := fun i => (HBi.out.more ((HX.out _).1 i.property)).cell rfl
         have x3 : ∀ i : { w' // X w' }, i.val.cell? ⟨w.heap.size, 0, none⟩ = some (.slice (some ⟨rb, ro, none⟩) p.rl rc) := fun i => (HMy.out.trans ((HX.out _).1 i.property)).cell p0
         have x4 : ∀ i : { w' // X w' }, i.val.cell? ⟨rb, ro + ic.toNat * 2, none⟩ = some (.int .i64 lg) := fun i => Hlg.out _ (HMy.out.trans ((HX.out _).1 i.property))
         have x5 : True := trivial
         go_wp2_with (fail)
         refine J01 (S := X) [(0, true), (1, true), (2, true), (3, true), (4, true), (5, true), (6, true), (7, true), (8, true), (9, true), (10, true), (11, true), (12, true), (13, true), (14, true), (15, true), (16, true), (17, true), (18, true)] (by kernel_rfl) (by kernel_rfl) (by kernel_rfl) HX0 ?_
         iterate 2 (refine J00 rfl (by kernel_rfl) (fun K hK => ?_); go_simp; refine hK _ _ ?_; clear hK K)
         cases bb with
         | true =>
          iterate 3 (refine J2a rfl HX0 (by kernel_rfl) (fun K hK => ?_); go_simp; refine hK _ _ ?_; clear hK K)
          refine J0s rfl rfl (by kernel_rfl) rfl (fun K hK => ?_); go_simp; refine hK _ _ ?_; clear hK K
          (refine J00 rfl (by kernel_rfl) (fun K hK => ?_); go_simp; refine hK _ _ ?_; clear hK K)
          iterate 10 (refine J2a rfl HX0 (by kernel_rfl) (fun K hK => ?_); go_simp; refine hK _ _ ?_; clear hK K)
          refine J0s rfl rfl (by kernel_rfl) rfl (fun K hK => ?_); go_simp; refine hK _ _ ?_; clear hK K
          (refine J00 rfl (by kernel_rfl) (fun K hK => ?_); go_simp; refine hK _ _ ?_; clear hK K)
          have Hck : Hid (J0c p L = (4, (k : Int))) := by
           show _ = _
           have hf : J0r p k s = 4 := by unfold J0r; rw [← HO.out]; rfl
           rw [Hn2.out, hf]; rfl
          refine J04 ?_
          clear x0 x1 x2 x3 x4 x5 hneX HX0
          have HMz : Hid (More W0 w6.drew) := (((HMm.out.trans HM8.out).trans HM3.out).trans HM6.out).drew
          have t0 : w6.cell? ⟨w.heap.size + 1, 0, none⟩ = some (.int .i64 0) := (HRES.out.more (((HMm.out.trans HM8.out).trans HM3.out).trans HM6.out)).cell rfl
          have t1 : w6.cell? ⟨w.heap.size + 1, 1, none⟩ = some (.int .i64 0) := (HRES.out.more (((HMm.out.trans HM8.out).trans HM3.out).trans HM6.out)).cell rfl
          have u0 : w6.frozen? ⟨w.heap.size + 1, 0, none⟩ = false := (HRES.out.more (((HMm.out.trans HM8.out).trans HM3.out).trans HM6.out)).frozen 0
          have u1 : w6.frozen? ⟨w.heap.size + 1, 1, none⟩ = false := (HRES.out.more (((HMm.out.trans HM8.out).trans HM3.out).trans HM6.out)).frozen 1
          go_wp2
          refine bodyPost_ret (v := flt 4 k) (by simp [flt, results, Try.results7, go_sem, *]) rfl ?_
          have hE := HP.out L HV2.out.2 _ (((HM0.out.trans (((HMm.out.trans HM8.out).trans HM3.out).trans HM6.out)).setCell (a := ⟨w.heap.size + 1, 0, none⟩) (by dsimp only; omega) (.int .i64 4)).setCell (a := ⟨w.heap.size + 1, 1, none⟩) (by dsimp only; omega) (.int .i64 k)).drew
          rw [Hck.out] at hE
          exact hE
         | false =>
          by_cases hn0 : n < 0
          ·have hdn : decide (n < 0) = true := by simp [hn0]
           have Hbd : Hid (J19 p (p.ins k) s = true) := by show _ = _; rw [HbK.out, hdn]; rfl
           iterate 3 (refine J00 rfl (by kernel_rfl) (fun K hK => ?_); go_simp; refine hK _ _ ?_; clear hK K)
           refine J0m rfl rfl (by kernel_rfl) rfl (fun K hK => ?_); go_simp; refine hK _ _ ?_; clear hK K
           (refine J00 rfl (by kernel_rfl) (fun K hK => ?_); go_simp; refine hK _ _ ?_; clear hK K)
           iterate 10 (refine J2a rfl HX0 (by kernel_rfl) (fun K hK => ?_); go_simp; refine hK _ _ ?_; clear hK K)
           refine J0s rfl rfl (by kernel_rfl) rfl (fun K hK => ?_); go_simp; refine hK _ _ ?_; clear hK K
           (refine J00 rfl (by kernel_rfl) (fun K hK => ?_); go_simp; refine hK _ _ ?_; clear hK K)
           have Hck : Hid (J0c p L = (4, (k : Int))) := by
            show _ = _
            have hf : J0r p k s = 4 := by unfold J0r; rw [Hbd.out, Bool.or_true]; rfl
            rw [Hn2.out, hf]; rfl
           refine J04 ?_
           clear x0 x1 x2 x3 x4 x5 hneX HX0
           have HMz : Hid (More W0 w6.drew) := (((HMm.out.trans HM8.out).trans HM3.out).trans HM6.out).drew
           have t0 : w6.cell? ⟨w.heap.size + 1, 0, none⟩ = some (.int .i64 0) := (HRES.out.more (((HMm.out.trans HM8.out).trans HM3.out).trans HM6.out)).cell rfl
           have t1 : w6.cell? ⟨w.heap.size + 1, 1, none⟩ = some (.int .i64 0) := (HRES.out.more (((HMm.out.trans HM8.out).trans HM3.out).trans HM6.out)).cell rfl
           have u0 : w6.frozen? ⟨w.heap.size + 1, 0, none⟩ = false := (HRES.out.more (((HMm.out.trans HM8.out).trans HM3.out).trans HM6.out)).frozen 0
           have u1 : w6.frozen? ⟨w.heap.size + 1, 1, none⟩ = false := (HRES.out.more (((HMm.out.trans HM8.out).trans HM3.out).trans HM6.out)).frozen 1
           go_wp2
           refine bodyPost_ret (v := flt 4 k) (by simp [flt, results, Try.results7, go_sem, *]) rfl ?_
           have hE := HP.out L HV2.out.2 _ (((HM0.out.trans (((HMm.out.trans HM8.out).trans HM3.out).trans HM6.out)).setCell (a := ⟨w.heap.size + 1, 0, none⟩) (by dsimp only; omega) (.int .i64 4)).setCell (a := ⟨w.heap.size + 1, 1, none⟩) (by dsimp only; omega) (.int .i64 k)).drew
           rw [Hck.out] at hE
           exact hE
          ·have hdn : decide (n < 0) = false := by simp [hn0]
           iterate 3 (refine J00 rfl (by kernel_rfl) (fun K hK => ?_); go_simp; refine hK _ _ ?_; clear hK K)
           refine J0m rfl rfl (by kernel_rfl) rfl (fun K hK => ?_); go_simp; refine hK _ _ ?_; clear hK K
           iterate 11 (refine J00 rfl (by kernel_rfl) (fun K hK => ?_); go_simp; refine hK _ _ ?_; clear hK K)
           refine J0m rfl rfl (by kernel_rfl) rfl (fun K hK => ?_); go_simp; refine hK _ _ ?_; clear hK K
           (refine J00 rfl (by kernel_rfl) (fun K hK => ?_); go_simp; refine hK _ _ ?_; clear hK K)
           by_cases hlv : lg < vb
           ·have Hbd : Hid (J19 p (p.ins k) s = true) := by show _ = _; rw [HbK.out, hdn, decide_eq_true hlv]; rfl
            have Hck : Hid (J0c p L = (4, (k : Int))) := by
             show _ = _
             have hf : J0r p k s = 4 := by unfold J0r; rw [Hbd.out, Bool.or_true]; rfl
             rw [Hn2.out, hf]; rfl
            refine J04 ?_
            clear x0 x1 x2 x3 x4 x5 hneX HX0
            have HMz : Hid (More W0 w6.drew) := (((HMm.out.trans HM8.out).trans HM3.out).trans HM6.out).drew
            have t0 : w6.cell? ⟨w.heap.size + 1, 0, none⟩ = some (.int .i64 0) := (HRES.out.more (((HMm.out.trans HM8.out).trans HM3.out).trans HM6.out)).cell rfl
            have t1 : w6.cell? ⟨w.heap.size + 1, 1, none⟩ = some (.int .i64 0) := (HRES.out.more (((HMm.out.trans HM8.out).trans HM3.out).trans HM6.out)).cell rfl
            have u0 : w6.frozen? ⟨w.heap.size + 1, 0, none⟩ = false := (HRES.out.more (((HMm.out.trans HM8.out).trans HM3.out).trans HM6.out)).frozen 0
            have u1 : w6.frozen? ⟨w.heap.size + 1, 1, none⟩ = false := (HRES.out.more (((HMm.out.trans HM8.out).trans HM3.out).trans HM6.out)).frozen 1
            go_wp2
            refine bodyPost_ret (v := flt 4 k) (by simp [flt, results, Try.results7, go_sem, *]) rfl ?_
            have hE := HP.out L HV2.out.2 _ (((HM0.out.trans (((HMm.out.trans HM8.out).trans HM3.out).trans HM6.out)).setCell (a := ⟨w.heap.size + 1, 0, none⟩) (by dsimp only; omega) (.int .i64 4)).setCell (a := ⟨w.heap.size + 1, 1, none⟩) (by dsimp only; omega) (.int .i64 k)).drew
            rw [Hck.out] at hE
            exact hE
           ·have hdl : decide (lg < vb) = false := by simp [hlv]
            have Hno : Hid ((outK p k || J19 p (p.ins k) s) = false) := by show _ = _; rw [← HO.out, HbK.out, hdn, hdl]; rfl
            refine J04 ?_
            clear x0 x1 x2 x3 x4 x5 hneX HX0
            have HMd : Hid (More w3 w6.drew) := HM6.out.drew
            obtain ⟨w7, Hw7⟩ : ∃ w7 : World, Hid (w7 = w6.drew) := ⟨_, rfl⟩
            have HMe : Hid (More w3 w7) := Hw7.out ▸ HMd.out
            rw [← Hw7.out]
            have HMx : Hid (More wm w7) := (HM8.out.trans HM3.out).trans HMe.out
            have HBx : Hid (Blk w7 wm.heap.size #[.int .i64 _, .int .i64 a, .int .i64 b, .int .i64 ic, .int .i64 n] 59) := (HB8.out.more HM3.out).more HMe.out
            obtain ⟨U, HU⟩ : ∃ U : World → Prop, Hid (∀ w', U w' ↔ More w7 w') := ⟨_, fun _ => Iff.rfl⟩
            have HU0 : U w7.drew := (HU.out _).2 (More.refl _).drew
            have hneU : Nonempty { w' // U w' } := ⟨⟨_, HU0⟩⟩
            have g0 : ∀ i : { w' // U w' }, i.val.cell? ⟨w.heap.size, 0, none⟩ = some (.slice (some ⟨rb, ro, none⟩) p.rl rc) := fun i => (HMx.out.trans ((HU.out _).1 i.property)).cell p0
            have g1 : ∀ i : { w' // U w' }, i.val.cell? ⟨w.heap.size, 1, none⟩ = some (.slice (some ⟨cb, co, none⟩) cl cc) := fun i => (HMx.out.trans ((HU.out _).1 i.property)).cell p1
            have g2 : ∀ i : { w' // U w' }, i.val.cell? ⟨lb, k * 2 + 1, none⟩ = some (.slice (some ⟨gs, 0, none⟩) 8 cs) := fun i => (HMx.out.trans ((HU.out _).1 i.property)).cell c1
            have g3 : ∀ i : { w' // U w' }, i.val.cell? ⟨wm.heap.size, 0, none⟩ = some (.int .i64 _) := fun i => (HBx.out.more ((HU.out _).1 i.property)).cell rfl
            have g4 : ∀ i : { w' // U w' }, i.val.cell? ⟨wm.heap.size, 1, none⟩ = some (.int .i64 a) := fun i => (HBx.out.more ((HU.out _).1 i.property)).cell rfl
            have g5 : ∀ i : { w' // U w' }, i.val.cell? ⟨wm.heap.size, 2, none⟩ = some (.int .i64 b) := fun i => (HBx.out.more ((HU.out _).1 i.property)).cell rfl
            have g6 : ∀ i : { w' // U w' }, i.val.cell? ⟨wm.heap.size, 3, none⟩ = some (.int .i64 ic) := fun i => (HBx.out.more ((HU.out _).1 i.property)).cell rfl
            have g7 : ∀ i : { w' // U w' }, i.val.cell? ⟨wm.heap.size, 4, none⟩ = some (.int .i64 n) := fun i => (HBx.out.more ((HU.out _).1 i.property)).cell rfl
            go_wp2_with (fail)
            refine J01 (S := U) [(0, true), (1, true), (2, true), (3, true), (4, true), (5, true), (6, true), (7, false)] (by kernel_rfl) (by kernel_rfl) (by kernel_rfl) HU0 ?_
            iterate 7 (refine J00 rfl (by kernel_rfl) (fun K hK => ?_); go_simp; refine hK _ _ ?_; clear hK K)
            refine J02 rfl (by kernel_rfl) (fun K hK => ?_); go_simp
            refine (Csec.out _ (HMx.out.drew)).mono ?_
            rintro e w9 ⟨rfl, m9⟩
            have HM9 : Hid (More w7 w9) := (More.refl _).drew.trans m9
            have HU9 : U w9 := (HU.out _).2 HM9.out
            clear m9
            cases sc with
            | true =>
             have Hck : Hid (J0c p L = (5, (k : Int))) := by
              show _ = _
              have hf : J0r p k s = 5 := by unfold J0r; rw [Hno.out, Hsc2.out]; rfl
              rw [Hn2.out, hf]; rfl
             go_simp
             refine hK _ _ HU9 ?_; clear hK K
             refine J04 ?_
             clear g0 g1 g2 g3 g4 g5 g6 g7 hneU HU0 HU9
             have t0 := (HRES.out.more ((HMm.out.trans HMx.out).trans HM9.out)).cell (j := 0) (v := .int .i64 0) rfl
             have t1 := (HRES.out.more ((HMm.out.trans HMx.out).trans HM9.out)).cell (j := 1) (v := .int .i64 0) rfl
             have u0 := (HRES.out.more ((HMm.out.trans HMx.out).trans HM9.out)).frozen 0
             have u1 := (HRES.out.more ((HMm.out.trans HMx.out).trans HM9.out)).frozen 1
             go_wp2
             refine bodyPost_ret (v := flt 5 k) (by simp [flt, results, Try.results7, go_sem, *]) rfl ?_
             have hE := HP.out L HV2.out.2 _ (((HM0.out.trans ((HMm.out.trans HMx.out).trans HM9.out)).setCell (a := ⟨w.heap.size + 1, 0, none⟩) (by dsimp only; omega) (.int .i64 5)).setCell (a := ⟨w.heap.size + 1, 1, none⟩) (by dsimp only; omega) (.int .i64 k))
             rw [Hck.out] at hE
             exact hE
            | false =>
             have Hck : Hid (J0c p L = scanK p L g (k + 1)) := by
              show _ = _
              have hf : J0r p k s = 0 := by unfold J0r; rw [Hno.out, Hsc2.out]; rfl
              rw [Hn2.out, if_pos hf]
             go_simp
             refine hK _ _ HU9 ?_; clear hK K
             refine J04 ?_
             clear g0 g1 g2 g3 g4 g5 g6 g7 hneU HU0 HU9
             go_wp2
             go_roundg g
             case measure => omega
             case rel => exact ⟨k + 1, by omega, by first | rfl | simp, (HMw.out.trans HMx.out).trans HM9.out, Hck.out⟩
      ·have e3 : (op == 3) = false := by simp; omega
       have e4 : (op == 4) = false := by simp; omega
       have Hbd : Hid (J19 p (p.ins k) s = false) := by
        show _ = _
        unfold J19; rw [HI.out]; dsimp only
        simp; omega
       clear hop
       cases bb with
       | true =>
        have Hck : Hid (J0c p L = (4, (k : Int))) := by
         show _ = _
         have hf : J0r p k s = 4 := by unfold J0r; rw [← HO.out]; rfl
         rw [Hn2.out, hf]; rfl
        have t0 := (HRES.out.more ((HMm.out.trans HM8.out).trans HM3.out)).cell (j := 0) (v := .int .i64 0) rfl
        have t1 := (HRES.out.more ((HMm.out.trans HM8.out).trans HM3.out)).cell (j := 1) (v := .int .i64 0) rfl
        have u0 := (HRES.out.more ((HMm.out.trans HM8.out).trans HM3.out)).frozen 0
        have u1 := (HRES.out.more ((HMm.out.trans HM8.out).trans HM3.out)).frozen 1
        go_wp2
        refine bodyPost_ret (v := flt 4 k) (by simp [flt, results, Try.results7, go_sem, *]) rfl ?_
        have hE := HP.out L HV2.out.2 _ (((HM0.out.trans ((HMm.out.trans HM8.out).trans HM3.out)).setCell (a := ⟨w.heap.size + 1, 0, none⟩) (by dsimp only; omega) (.int .i64 4)).setCell (a := ⟨w.heap.size + 1, 1, none⟩) (by dsimp only; omega) (.int .i64 k))
        rw [Hck.out] at hE
        exact hE
       | false =>
        have Hno : Hid ((outK p k || J19 p (p.ins k) s) = false) := by show _ = _; rw [← HO.out, Hbd.out]; rfl
        have HMx : Hid (More wm w3) := (HM8.out.trans HM3.out).trans Hrf.out
        have HBx : Hid (Blk w3 wm.heap.size #[.int .i64 op, .int .i64 a, .int .i64 b, .int .i64 ic, .int .i64 n] 59) := (HB8.out.more HM3.out).more Hrf.out
        obtain ⟨U, HU⟩ : ∃ U : World → Prop, Hid (∀ w', U w' ↔ More w3 w') := ⟨_, fun _ => Iff.rfl⟩
        have HU0 : U w3.drew := (HU.out _).2 (More.refl _).drew
        have hneU : Nonempty { w' // U w' } := ⟨⟨_, HU0⟩⟩
        have g0 : ∀ i : { w' // U w' }, i.val.cell? ⟨w.heap.size, 0, none⟩ = some (.slice ra p.rl rc) := fun i => (HMx.out.trans ((HU.out _).1 i.property)).cell p0
        have g1 : ∀ i : { w' // U w' }, i.val.cell? ⟨w.heap.size, 1, none⟩ = some (.slice (some ⟨cb, co, none⟩) cl cc) := fun i => (HMx.out.trans ((HU.out _).1 i.property)).cell p1
        have g2 : ∀ i : { w' // U w' }, i.val.cell? ⟨lb, k * 2 + 1, none⟩ = some (.slice (some ⟨gs, 0, none⟩) 8 cs) := fun i => (HMx.out.trans ((HU.out _).1 i.property)).cell c1
        have g3 : ∀ i : { w' // U w' }, i.val.cell? ⟨wm.heap.size, 0, none⟩ = some (.int .i64 op) := fun i => (HBx.out.more ((HU.out _).1 i.property)).cell rfl
        have g4 : ∀ i : { w' // U w' }, i.val.cell? ⟨wm.heap.size, 1, none⟩ = some (.int .i64 a) := fun i => (HBx.out.more ((HU.out _).1 i.property)).cell rfl
        have g5 : ∀ i : { w' // U w' }, i.val.cell? ⟨wm.heap.size, 2, none⟩ = some (.int .i64 b) := fun i => (HBx.out.more ((HU.out _).1 i.property)).cell rfl
        have g6 : ∀ i : { w' // U w' }, i.val.cell? ⟨wm.heap.size, 3, none⟩ = some (.int .i64 ic) := fun i => (HBx.out.more ((HU.out _).1 i.property)).cell rfl
        have g7 : ∀ i : { w' // U w' }, i.val.cell? ⟨wm.heap.size, 4, none⟩ = some (.int .i64 n) := fun i => (HBx.out.more ((HU.out _).1 i.property)).cell rfl
        go_wp2_with (fail)
        refine J01 (S := U) [(0, true), (1, true), (2, true), (3, true), (4, true), (5, true), (6, true), (7, false)] (by kernel_rfl) (by kernel_rfl) (by kernel_rfl) HU0 ?_
        iterate 7 (refine J00 rfl (by kernel_rfl) (fun K hK => ?_); go_simp; refine hK _ _ ?_; clear hK K)
        refine J02 rfl (by kernel_rfl) (fun K hK => ?_); go_simp
        refine (Csec.out _ (HMx.out.drew)).mono ?_
        rintro e w9 ⟨rfl, m9⟩
        have HM9 : Hid (More w3 w9) := (More.refl _).drew.trans m9
        have HU9 : U w9 := (HU.out _).2 HM9.out
        clear m9
        cases sc with
        | true =>
         have Hck : Hid (J0c p L = (5, (k : Int))) := by
          show _ = _
          have hf : J0r p k s = 5 := by unfold J0r; rw [Hno.out, Hsc2.out]; rfl
          rw [Hn2.out, hf]; rfl
         go_simp
         refine hK _ _ HU9 ?_; clear hK K
         refine J04 ?_
         clear g0 g1 g2 g3 g4 g5 g6 g7 hneU HU0 HU9
         have t0 := (HRES.out.more ((HMm.out.trans HMx.out).trans HM9.out)).cell (j := 0) (v := .int .i64 0) rfl
         have t1 := (HRES.out.more ((HMm.out.trans HMx.out).trans HM9.out)).cell (j := 1) (v := .int .i64 0) rfl
         have u0 := (HRES.out.more ((HMm.out.trans HMx.out).trans HM9.out)).frozen 0
         have u1 := (HRES.out.more ((HMm.out.trans HMx.out).trans HM9.out)).frozen 1
         go_wp2
         refine bodyPost_ret (v := flt 5 k) (by simp [flt, results, Try.results7, go_sem, *]) rfl ?_
         have hE := HP.out L HV2.out.2 _ (((HM0.out.trans ((HMm.out.trans HMx.out).trans HM9.out)).setCell (a := ⟨w.heap.size + 1, 0, none⟩) (by dsimp only; omega) (.int .i64 5)).setCell (a := ⟨w.heap.size + 1, 1, none⟩) (by dsimp only; omega) (.int .i64 k))
         rw [Hck.out] at hE
         exact hE
        | false =>
         have Hck : Hid (J0c p L = scanK p L g (k + 1)) := by
          show _ = _
          have hf : J0r p k s = 0 := by unfold J0r; rw [Hno.out, Hsc2.out]; rfl
          rw [Hn2.out, if_pos hf]
         go_simp
         refine hK _ _ HU9 ?_; clear hK K
         refine J04 ?_
         clear g0 g1 g2 g3 g4 g5 g6 g7 hneU HU0 HU9
         go_wp2
         go_roundg g
         case measure => omega
         case rel => exact ⟨k + 1, by omega, by first | rfl | simp, (HMw.out.trans HMx.out).trans HM9.out, Hck.out⟩
end
section
open Go.RowKit
set_option maxHeartbeats 1000000 in
theorem Jh1 (u v : Value) (l : List Se) (w : World) (hu : SeenAt w u l) (hv : SeenAt w v l) :
  Calls Try.prog 40 #[u, v] w fun e w' => e = .returned (.bool true) ∧ More w w' := by
 obtain ⟨a, b, o, c, rfl, ha, h1, hb⟩ := hu
 obtain ⟨a', b', o', c', rfl, ha', h1', _⟩ := hv
 obtain ⟨n, hn⟩ : ∃ n, l.length = n := ⟨_, rfl⟩
 have H : Hid ((0 < n → a = some ⟨b, o, none⟩) ∧ SeesAt w b o l ∧ (0 < n → a' = some ⟨b', o', none⟩) ∧ SeesAt w b' o' l ∧ n < 4611686018427387904 ∧ l.length = n) := by
  subst hn; exact ⟨ha, h1, ha', h1', hb, rfl⟩
 rw [hn]
 clear ha h1 ha' h1' hb hn
 go_enter Try.func40, Try.ntmps40
 go_wp2
 go_loopg [5] n (fun q i wr => ∃ k : Nat, k + q = n ∧ i = .int .i64 k ∧ More w wr)
 case atStart => exact ⟨0, by omega, rfl, More.refl _⟩
 case round =>
  obtain ⟨k, hkg, rfl, m⟩ := hrel
  have Hm : Hid (More w wr) := m
  clear m
  cases gk with
  | zero =>
   obtain rfl : k = n := by omega
   go_wp2
   go_ret
   exact ⟨rfl, Hm.out⟩
  | succ q =>
   have hk : k < n := by omega
   have hk' : (k : Int) < (n : Int) := by omega
   have hk0 : (0 : Int) ≤ (k : Int) := by omega
   obtain rfl := H.out.1 (by omega)
   obtain rfl := H.out.2.2.1 (by omega)
   obtain ⟨s, Hs⟩ : ∃ s, Hid (l[k]? = some s) := ⟨_, List.getElem?_eq_getElem (by have := H.out.2.2.2.2.2; omega)⟩
   have q1 := (H.out.2.1.more Hm.out) k s Hs.out
   have q2 := (H.out.2.2.2.1.more Hm.out) k s Hs.out
   obtain ⟨x, y, z⟩ := s
   obtain ⟨S, HS⟩ : ∃ S : World → Prop, Hid (∀ w', S w' ↔ More wr w') := ⟨fun w' => More wr w', fun _ => Iff.rfl⟩
   have k0 : ∀ i : { w' // S w' }, i.val.cell? ⟨b, o + k * 3, none⟩ = some (.int .i64 x) := fun i => ((HS.out _).1 i.property).cell q1.1
   have k1 : ∀ i : { w' // S w' }, i.val.cell? ⟨b, o + k * 3 + 1, none⟩ = some (.int .i64 y) := fun i => ((HS.out _).1 i.property).cell q1.2.1
   have k2 : ∀ i : { w' // S w' }, i.val.cell? ⟨b, o + k * 3 + 2, none⟩ = some (.int .i64 z) := fun i => ((HS.out _).1 i.property).cell q1.2.2
   have d0 : ∀ i : { w' // S w' }, i.val.cell? ⟨b', o' + k * 3, none⟩ = some (.int .i64 x) := fun i => ((HS.out _).1 i.property).cell q2.1
   have d1 : ∀ i : { w' // S w' }, i.val.cell? ⟨b', o' + k * 3 + 1, none⟩ = some (.int .i64 y) := fun i => ((HS.out _).1 i.property).cell q2.2.1
   have d2 : ∀ i : { w' // S w' }, i.val.cell? ⟨b', o' + k * 3 + 2, none⟩ = some (.int .i64 z) := fun i => ((HS.out _).1 i.property).cell q2.2.2
   have hne : Nonempty { w' // S w' } := ⟨⟨wr, (HS.out _).2 (More.refl _)⟩⟩
   clear q1 q2
   go_wp2_with (fail)
   refine J01 (S := S) [(0, true), (1, true), (2, true), (3, true), (4, true), (5, true), (6, true), (7, true), (8, true)] (by kernel_rfl) (by kernel_rfl) (by kernel_rfl) ((HS.out _).2 (More.refl _).drew) ?_
   iterate 9 (refine J00 rfl (by kernel_rfl) (fun K hK => ?_); go_simp; refine hK _ _ ?_; clear hK K)
   refine J04 ?_
   clear k0 k1 k2 d0 d1 d2 hne
   go_wp2
   go_roundg q
   case measure => omega
   case rel => exact ⟨k + 1, by omega, by first | rfl | (simp; unfold wrap64; have := H.out.2.2.2.2.1; omega), Hm.out.drew⟩
end
section
open Go.RowKit
set_option linter.unusedSimpArgs false
set_option linter.unusedVariables false
set_option maxRecDepth 8000
structure Prg.Eq8 (p q : Prg) : Prop where
 rl : p.rl = q.rl
 reg : ∀ i, i < p.rl → p.log i = q.log i ∧ p.sec i = q.sec i
 cl : p.cl = q.cl
 ins : ∀ i, i < p.cl → p.ins i = q.ins i

set_option maxHeartbeats 2000000 in
theorem Jch (p q : Prg) (l l' : Loc) (w : World) (hp : PIn w p l) (hq : PIn w q l') (h : p.Eq8 q) (hrl : p.rl < 4611686018427387904) (hcl : p.cl < 4611686018427387904) :
  Calls Try.prog 8 #[.agg #[.slice l.ra p.rl l.rc, .slice l.ca p.cl l.cc], .agg #[.slice l'.ra q.rl l'.rc, .slice l'.ca q.cl l'.cc]] w fun e w' => e = .returned (.bool true) ∧ More w w' := by
 have H : Hid (PIn w p l ∧ PIn w q l' ∧ p.Eq8 q) := ⟨hp, hq, h⟩
 rw [← h.rl, ← h.cl]
 clear hp hq h
 obtain ⟨rl, Hrl⟩ : ∃ x, Hid (p.rl = x) := ⟨_, rfl⟩
 obtain ⟨cl, Hcl⟩ : ∃ x, Hid (p.cl = x) := ⟨_, rfl⟩
 obtain ⟨ra, rb, ro, rc, ca, cb, co, cc⟩ := l
 obtain ⟨ra', rb', ro', rc', ca', cb', co', cc'⟩ := l'
 dsimp only
 rw [Hrl.out] at hrl
 rw [Hcl.out] at hcl
 rw [Hrl.out, Hcl.out]
 obtain ⟨W, HW⟩ : ∃ W : World, Hid (W = (w.alloc (.cells #[.slice ra rl rc, .slice ca cl cc] 25)).alloc (.cells #[.slice ra' rl rc', .slice ca' cl cc'] 25)) := ⟨_, rfl⟩
 have HM : Hid (More w W) := by rw [HW.out]; exact ((More.refl _).alloc _ _).alloc _ _
 have b0 : W.cell? ⟨w.heap.size, 0, none⟩ = some (.slice ra rl rc) := by rw [HW.out]; go_simp
 have b1 : W.cell? ⟨w.heap.size, 1, none⟩ = some (.slice ca cl cc) := by rw [HW.out]; go_simp
 have b2 : W.cell? ⟨w.heap.size + 1, 0, none⟩ = some (.slice ra' rl rc') := by rw [HW.out]; go_simp
 have b3 : W.cell? ⟨w.heap.size + 1, 1, none⟩ = some (.slice ca' cl cc') := by rw [HW.out]; go_simp
 have HB : Hid (∀ w', More W w' → w'.cell? ⟨w.heap.size, 0, none⟩ = some (.slice ra rl rc) ∧ w'.cell? ⟨w.heap.size, 1, none⟩ = some (.slice ca cl cc) ∧ w'.cell? ⟨w.heap.size + 1, 0, none⟩ = some (.slice ra' rl rc') ∧ w'.cell? ⟨w.heap.size + 1, 1, none⟩ = some (.slice ca' cl cc')) := fun w' m => ⟨m.cell b0, m.cell b1, m.cell b2, m.cell b3⟩
 go_enter Try.func8, Try.ntmps8
 go_wp2_with (fail)
 rw [← HW.out]
 clear b0 b1 b2 b3
 go_loopg [5] rl (fun g iv wr => ∃ k : Nat, k + g = rl ∧ iv = .int .i64 k ∧ Hid (More W wr))
 case atStart => exact ⟨0, by omega, rfl, More.refl _⟩
 case round =>
  obtain ⟨k, hkg, rfl, Hr⟩ := hrel
  obtain ⟨b0, b1, b2, b3⟩ := HB.out wr Hr.out
  cases gk with
  | zero =>
   obtain rfl : k = rl := by omega
   go_wp2_with (fail)
   go_loopg [6] cl (fun g iv wr => ∃ k : Nat, k + g = cl ∧ iv = .int .i64 k ∧ Hid (More W wr))
   case atStart => exact ⟨0, by omega, rfl, Hr.out⟩
   case round =>
    clear b0 b1 b2 b3
    obtain ⟨j, hjg, rfl, Hs⟩ := hrel
    obtain ⟨b0, b1, b2, b3⟩ := HB.out wr Hs.out
    cases gk with
    | zero =>
     obtain rfl : j = cl := by omega
     go_wp2
     go_ret
     exact ⟨rfl, HM.out.trans Hs.out⟩
    | succ g =>
     have hj : j < cl := by omega
     have hji : (j : Int) < cl := by omega
     have hj63 : wrap64 ((j : Int) + 1) = (j : Int) + 1 := by unfold wrap64; omega
     have hjp : j < p.cl := by rw [Hcl.out]; exact hj
     have q1 := (H.out.1.code.more (HM.out.trans Hs.out)) j hjp
     have q2 := (H.out.2.1.code.more (HM.out.trans Hs.out)) j (by rw [← H.out.2.2.cl]; exact hjp)
     rw [← H.out.2.2.ins j hjp] at q2
     obtain rfl : ca = some ⟨cb, co, none⟩ := H.out.1.hc (by omega)
     obtain rfl : ca' = some ⟨cb', co', none⟩ := H.out.2.1.hc (by rw [← H.out.2.2.cl]; omega)
     dsimp only at q1 q2
     obtain ⟨i, hi⟩ : ∃ i, p.ins j = i := ⟨_, rfl⟩
     rw [hi] at q1 q2
     obtain ⟨op, a, b, c, n⟩ := i
     dsimp only at q1 q2
     obtain ⟨x0, x1, x2, x3, x4⟩ := q1
     obtain ⟨y0, y1, y2, y3, y4⟩ := q2
     clear hi hjp
     obtain ⟨S, HS⟩ : ∃ S : World → Prop, Hid (∀ w', S w' ↔ More wr w') := ⟨_, fun _ => Iff.rfl⟩
     have HS0 : S wr.drew := (HS.out _).2 (More.refl _).drew
     have hne : Nonempty { w' // S w' } := ⟨⟨_, HS0⟩⟩
     have k0 : ∀ i : { w' // S w' }, i.val.cell? ⟨w.heap.size, 1, none⟩ = some (.slice (some ⟨cb, co, none⟩) cl cc) := fun i => ((HS.out _).1 i.property).cell b1
     have k1 : ∀ i : { w' // S w' }, i.val.cell? ⟨w.heap.size + 1, 1, none⟩ = some (.slice (some ⟨cb', co', none⟩) cl cc') := fun i => ((HS.out _).1 i.property).cell b3
     have k2 : ∀ i : { w' // S w' }, i.val.cell? ⟨cb, co + j * 5, none⟩ = some (.int .i64 op) := fun i => ((HS.out _).1 i.property).cell x0
     have k3 : ∀ i : { w' // S w' }, i.val.cell? ⟨cb', co' + j * 5, none⟩ = some (.int .i64 op) := fun i => ((HS.out _).1 i.property).cell y0
     have k4 : ∀ i : { w' // S w' }, i.val.cell? ⟨cb, co + j * 5 + 1, none⟩ = some (.int .i64 a) := fun i => ((HS.out _).1 i.property).cell x1
     have k5 : ∀ i : { w' // S w' }, i.val.cell? ⟨cb', co' + j * 5 + 1, none⟩ = some (.int .i64 a) := fun i => ((HS.out _).1 i.property).cell y1
     have k6 : ∀ i : { w' // S w' }, i.val.cell? ⟨cb, co + j * 5 + 2, none⟩ = some (.int .i64 b) := fun i => ((HS.out _).1 i.property).cell x2
     have k7 : ∀ i : { w' // S w' }, i.val.cell? ⟨cb', co' + j * 5 + 2, none⟩ = some (.int .i64 b) := fun i => ((HS.out _).1 i.property).cell y2
     have k8 : ∀ i : { w' // S w' }, i.val.cell? ⟨cb, co + j * 5 + 3, none⟩ = some (.int .i64 c) := fun i => ((HS.out _).1 i.property).cell x3
     have k9 : ∀ i : { w' // S w' }, i.val.cell? ⟨cb', co' + j * 5 + 3, none⟩ = some (.int .i64 c) := fun i => ((HS.out _).1 i.property).cell y3
     have k10 : ∀ i : { w' // S w' }, i.val.cell? ⟨cb, co + j * 5 + 4, none⟩ = some (.int .i64 n) := fun i => ((HS.out _).1 i.property).cell x4
     have k11 : ∀ i : { w' // S w' }, i.val.cell? ⟨cb', co' + j * 5 + 4, none⟩ = some (.int .i64 n) := fun i => ((HS.out _).1 i.property).cell y4
     go_wp2_with (fail)
     refine J01 (S := S) [(0, true), (1, true), (2, true), (3, true), (4, true), (5, true), (6, true), (7, true), (8, true), (9, true), (10, true)] (by kernel_rfl) (by kernel_rfl) (by kernel_rfl) HS0 ?_
     iterate 11 (refine J00 rfl (by kernel_rfl) (fun K hK => ?_); go_simp; refine hK _ _ ?_; clear hK K)
     refine J04 ?_
     clear hne HS0 k0 k1 k2 k3 k4 k5 k6 k7 k8 k9 k10 k11
     go_wp2
     go_roundg g
     case measure => omega
     case rel => exact ⟨j + 1, by omega, by first | rfl | simp, Hs.out.trans (More.refl _).drew⟩
  | succ g =>
   have hk : k < rl := by omega
   have hki : (k : Int) < rl := by omega
   have hk63 : wrap64 ((k : Int) + 1) = (k : Int) + 1 := by unfold wrap64; omega
   have hkp : k < p.rl := by rw [Hrl.out]; exact hk
   have q1 := (H.out.1.regs.more (HM.out.trans Hr.out)) k hkp
   have q2 := (H.out.2.1.regs.more (HM.out.trans Hr.out)) k (by rw [← H.out.2.2.rl]; exact hkp)
   rw [← (H.out.2.2.reg k hkp).1, ← (H.out.2.2.reg k hkp).2] at q2
   obtain rfl : ra = some ⟨rb, ro, none⟩ := H.out.1.hr (by omega)
   obtain rfl : ra' = some ⟨rb', ro', none⟩ := H.out.2.1.hr (by rw [← H.out.2.2.rl]; omega)
   dsimp only at q1 q2
   obtain ⟨lg, hlg⟩ : ∃ i, p.log k = i := ⟨_, rfl⟩
   obtain ⟨sc, hsc⟩ : ∃ i, p.sec k = i := ⟨_, rfl⟩
   rw [hlg, hsc] at q1 q2
   obtain ⟨x0, x1⟩ := q1
   obtain ⟨y0, y1⟩ := q2
   clear hlg hsc hkp
   obtain ⟨S, HS⟩ : ∃ S : World → Prop, Hid (∀ w', S w' ↔ More wr w') := ⟨_, fun _ => Iff.rfl⟩
   have HS0 : S wr.drew := (HS.out _).2 (More.refl _).drew
   have hne : Nonempty { w' // S w' } := ⟨⟨_, HS0⟩⟩
   have k0 : ∀ i : { w' // S w' }, i.val.cell? ⟨w.heap.size, 0, none⟩ = some (.slice (some ⟨rb, ro, none⟩) rl rc) := fun i => ((HS.out _).1 i.property).cell b0
   have k1 : ∀ i : { w' // S w' }, i.val.cell? ⟨w.heap.size + 1, 0, none⟩ = some (.slice (some ⟨rb', ro', none⟩) rl rc') := fun i => ((HS.out _).1 i.property).cell b2
   have k2 : ∀ i : { w' // S w' }, i.val.cell? ⟨rb, ro + k * 2, none⟩ = some (.int .i64 lg) := fun i => ((HS.out _).1 i.property).cell x0
   have k3 : ∀ i : { w' // S w' }, i.val.cell? ⟨rb, ro + k * 2 + 1, none⟩ = some (.bool sc) := fun i => ((HS.out _).1 i.property).cell x1
   have k4 : ∀ i : { w' // S w' }, i.val.cell? ⟨rb', ro' + k * 2, none⟩ = some (.int .i64 lg) := fun i => ((HS.out _).1 i.property).cell y0
   have k5 : ∀ i : { w' // S w' }, i.val.cell? ⟨rb', ro' + k * 2 + 1, none⟩ = some (.bool sc) := fun i => ((HS.out _).1 i.property).cell y1
   go_wp2_with (fail)
   refine J01 (S := S) [(0, true), (1, true), (2, true), (3, true), (4, true), (5, true), (6, true), (7, true), (8, true), (9, true), (10, true)] (by kernel_rfl) (by kernel_rfl) (by kernel_rfl) HS0 ?_
   iterate 11 (refine J00 rfl (by kernel_rfl) (fun K hK => ?_); go_simp; refine hK _ _ ?_; clear hK K)
   refine J04 ?_
   clear hne HS0 k0 k1 k2 k3 k4 k5
   go_wp2
   go_roundg g
   case measure => omega
   case rel => exact ⟨k + 1, by omega, by first | rfl | simp, Hr.out.trans (More.refl _).drew⟩

theorem J95 (p q : Prg) (l l' : Loc) (w : World) (hp : PIn w p l) (hq : PIn w q l') (hrl : p.rl = q.rl) (hreg : ∀ i, i < p.rl → p.log i = q.log i ∧ p.sec i = q.sec i) (hb : p.rl < 4611686018427387904) :
  Calls Try.prog 10 #[.agg #[.slice l.ra p.rl l.rc, .slice l.ca p.cl l.cc], .agg #[.slice l'.ra q.rl l'.rc, .slice l'.ca q.cl l'.cc]] w fun e w' => e = .returned (.bool true) ∧ More w w' := by
 have C : Hid (∀ w1 : World, More w w1 → Calls Try.prog 8 #[.agg #[.slice l.ra p.rl l.rc, .slice none 0 0], .agg #[.slice l'.ra q.rl l'.rc, .slice none 0 0]] w1 fun e w' => e = .returned (.bool true) ∧ More w1 w') := fun w1 m1 =>
  Jch ⟨p.rl, p.log, p.sec, 0, p.ins⟩ ⟨q.rl, q.log, q.sec, 0, q.ins⟩ ⟨l.ra, l.rb, l.ro, l.rc, none, 0, 0, 0⟩ ⟨l'.ra, l'.rb, l'.ro, l'.rc, none, 0, 0, 0⟩ w1
   ⟨hp.hr, fun h => absurd h (Nat.lt_irrefl _), hp.regs.more m1, fun i hi => absurd hi (Nat.not_lt_zero _)⟩ ⟨hq.hr, fun h => absurd h (Nat.lt_irrefl _), hq.regs.more m1, fun i hi => absurd hi (Nat.not_lt_zero _)⟩
   ⟨hrl, hreg, rfl, fun i hi => absurd hi (Nat.not_lt_zero _)⟩ hb (by simp)
 clear hp hq hrl hreg hb
 obtain ⟨a1, h1⟩ : ∃ x, Value.slice l.ra p.rl l.rc = x := ⟨_, rfl⟩
 obtain ⟨a2, n2, c2, h2⟩ : ∃ a n c, Value.slice l.ca p.cl l.cc = .slice a n c := ⟨_, _, _, rfl⟩
 obtain ⟨a4, n4, c4, h4⟩ : ∃ a n c, Value.slice l'.ca q.cl l'.cc = .slice a n c := ⟨_, _, _, rfl⟩
 obtain ⟨a5, n5, c5, h5⟩ : ∃ a n c, Value.slice l.ra p.rl l.rc = .slice a n c := ⟨_, _, _, rfl⟩
 obtain ⟨a6, n6, c6, h6⟩ : ∃ a n c, Value.slice l'.ra q.rl l'.rc = .slice a n c := ⟨_, _, _, rfl⟩
 rw [h5, h6] at C
 rw [h5, h6, h2, h4]
 clear h1 h2 h4 h5 h6
 go_enter Try.func10, Try.ntmps10
 go_wp2_with (fail)
 refine (C.out _ ((((More.refl _).alloc _ _).alloc _ _).alloc _ _ |>.alloc _ _)).mono ?_
 rintro e w1 ⟨rfl, m1⟩
 have Hm1 : Hid (More w w1) := ((((More.refl _).alloc _ _).alloc _ _).alloc _ _ |>.alloc _ _).trans m1
 clear m1
 go_wp2
 go_ret
 exact ⟨rfl, Hm1.out⟩
theorem J9p (p : Prg) (l : Loc) (w : World) (hp : PIn w p l) (hf : p.Fit) :
  Calls Try.prog 7 #[.agg #[.slice l.ra p.rl l.rc, .slice l.ca p.cl l.cc]] w fun e w' => ∃ f : Int × Int, Told p f ∧ e = .returned (.agg #[.int .i64 f.1, .int .i64 f.2]) ∧ More w w' := by
 by_cases hok : p.Ok 200 8
 ·refine (Jcs p l w hp hok (fun i hi => (hf.ins i hi).2.2.2.2) (fun w1 m1 => Jg9 p l w1 (hp.more m1) hok)).mono ?_
  rintro e w' ⟨l', h1, rfl, m⟩
  exact ⟨_, .inr ⟨hok, l', h1, rfl⟩, rfl, m⟩
 ·refine (J9o _ _ ⟨_, _, _, rfl⟩ ⟨_, _, _, rfl⟩ w (fun w2 m2 => ?_)).mono (fun e w' ⟨h1, h2⟩ => ⟨(2, 0), .inl ⟨hok, rfl⟩, h1, h2⟩)
  refine (Je0 p l _ (hp.more m2)).mono ?_
  rintro e w' ⟨r, rfl, hr, m⟩
  cases r with
  | false => exact ⟨rfl, m⟩
  | true => exact absurd (hr.1 rfl) hok
theorem Jd5 (p : Prg) (l : Loc) (w : World) (hp : PIn w p l) (hok : p.Ok 8000 10) :
  Calls Try.prog 9 #[.agg #[.slice l.ra p.rl l.rc, .slice l.ca p.cl l.cc]] w fun e w' => e = .returned (.bool true) ∧ More w w' := by
 refine (Jh0 p l _ hp).mono ?_
 rintro e w' ⟨r, rfl, hr, m⟩
 cases r with
 | true => exact ⟨rfl, m⟩
 | false => exact absurd (hr.2 hok) (by simp)

def Makes (F : Nat) (p : Prg) (l : Loc) (Q : Prg → Prop) (w : World) : Prop :=
 Calls Try.prog F #[.agg #[.slice l.ra p.rl l.rc, .slice l.ca p.cl l.cc]] w fun e w' => ∃ (h : Prg) (lh : Loc), Q h ∧ PIn w' h lh ∧ e = .returned (.tuple #[.agg #[.slice lh.ra h.rl lh.rc, .slice lh.ca h.cl lh.cc], .agg #[.int .i64 0, .int .i64 0]]) ∧ More w w'
structure Like8 (p h : Prg) : Prop where
 ok : h.Ok 8000 10
 fit : h.Fit
 rl : p.rl = h.rl
 reg : ∀ i, i < p.rl → p.log i = h.log i ∧ p.sec i = h.sec i
theorem Like8.fits {p h : Prg} (k : Like8 p h) {ml : Nat} {len : Nat → Nat} (hf : J1m p.rl p.log ml len) : J1m h.rl h.log ml len :=
 ⟨k.ok.1, hf.2.1.trans k.rl, fun i hi => by rw [hf.2.2 i (by rw [k.rl]; exact hi), (k.reg i (by rw [k.rl]; exact hi)).1]⟩

def J7k (p h : Prg) (k top : Nat) : Prop := ∀ (m : Mem), J1m p.rl p.log m.ml m.len → (∀ j, j < m.ml → ∀ i, i < m.len j → B64 (m.wd j i)) → ∀ f : Nat, f ≤ top →
 (playI p m f).fin = 0 ∨ ((playI h m (k * f + k)).fin = (playI p m f).fin ∧ (playI h m (k * f + k)).val = (playI p m f).val ∧ (playI h m (k * f + k)).mem.Like (playI p m f).mem)
end
section
open Go.RowKit
set_option linter.unusedVariables false
def EqS (k : KS) (r t : Nat → Int) : Prop := ∀ j, j < 8 → (k j).s = false → r j = t j
theorem EqS.mono {k u : KS} (h : leS k u) {r t : Nat → Int} (q : EqS k r t) : EqS u r t := fun j hj hs => q j hj (by
 cases e : (k j).s
 ·rfl
 ·rw [(h j hj).2 e] at hs; cases hs)
theorem EqS.set {k : KS} {r t : Nat → Int} (h : EqS k r t) (a : Int) {v : Kn} {x y : Int} (q : v.s = false → x = y) : EqS (setK k a v) (setR r a x) (setR t a y) := fun j hj hs => by
 unfold setK at hs
 unfold setR
 by_cases e : j = a.toNat
 ·rw [if_pos e] at hs; rw [if_pos e, if_pos e]; exact q hs
 ·rw [if_neg e] at hs; rw [if_neg e, if_neg e]; exact h j hj hs
theorem EqS.know {k : KS} {r t : Nat → Int} (h : EqS k r t) (a : Int) {v : Kn} (q : v.s = false → r a.toNat = t a.toNat) : EqS (setK k a v) r t := fun j hj hs => by
 unfold setK at hs
 by_cases e : j = a.toNat
 ·rw [if_pos e] at hs; rw [e]; exact q hs
 ·rw [if_neg e] at hs; exact h j hj hs

def PubI (p : Prg) (x y : Mem) : Prop := ∀ c, c < p.rl → p.sec c = false → ∀ i, i < x.len c → x.wd c i = y.wd c i

section
variable {p : Prg} {m m' : Mem} {l : KV} {s t : St}

theorem Jif (k : Kn) (n : Int) : (Kn.index k n).s = k.s := by unfold Kn.index; split <;> simp [Kn.op, Kn.of]

theorem Ji7 {i : Ins} {k : KS} {r t : Nat → Int} (hi : InsOk p.rl p.log p.cl 8 i) (h3 : ¬ i.op = 3) (h4 : ¬ i.op = 4) (h5 : ¬ i.op = 5) (h6 : ¬ i.op = 6) (h7 : ¬ i.op = 7) (h8 : ¬ i.op = 8) (h9 : ¬ i.op = 9)
  (hs : J0f p i k = false) (h : EqS k r t) : EqS (nextK p i k) (regsI r i).1 (regsI t i).1 ∧ (regsI r i).2 = (regsI t i).2 := by
 have hg := J1a hi
 unfold nextK regsI
 by_cases q1 : i.op = 1
 ·rw [if_pos q1, if_pos q1, if_pos q1]; exact ⟨h.set _ (fun _ => rfl), rfl⟩
 rw [if_neg q1, if_neg q1, if_neg q1]
 by_cases q2 : i.op = 2
 ·rw [if_pos q2, if_pos q2, if_pos q2]; exact ⟨h.set _ (fun q => h _ (hg.2.1 (by omega)) q), rfl⟩
 rw [if_neg q2, if_neg q2, if_neg q2]
 by_cases q10 : i.op = 10
 ·rw [if_pos q10, if_pos q10, if_pos q10]
  exact ⟨h.set _ (fun q => by rw [Jif] at q; rw [h _ (hg.2.1 (by omega)) q]), rfl⟩
 rw [if_neg q10, if_neg q10, if_neg q10, if_neg (by omega)]
 by_cases q11 : i.op = 11
 ·rw [if_pos q11, if_pos q11, if_pos q11]
  have ha := hg.1 (by omega)
  refine ⟨?_, rfl⟩
  dsimp only
  cases es : (k i.a.toNat).s
  ·have ee := h _ ha es
   rw [← ee]
   split
   ·exact h.set _ (fun _ => rfl)
   ·exact h.know _ (fun _ => ee)
  ·intro j hj hjs
   unfold setK at hjs
   by_cases e : j = i.a.toNat
   ·rw [if_pos e] at hjs; unfold Kn.less at hjs; dsimp only at hjs; rw [es] at hjs; cases hjs
   ·rw [if_neg e] at hjs
    have := h j hj hjs
    have hs1 : ∀ (r : Nat → Int) (c : Prop) [Decidable c], (if c then setR r i.a 0 else r) j = r j := fun r c _ => by
     split
     ·unfold setR; rw [if_neg e]
     ·rfl
    rw [hs1, hs1]; exact this
 rw [if_neg q11, if_neg q11, if_neg q11]
 by_cases q12 : i.op = 12
 ·rw [if_pos (.inr (.inr q12)), if_pos q12, if_pos q12]; exact ⟨h, rfl⟩
 rw [if_neg (by omega), if_neg q12, if_neg q12]
 have hb := hg.2.1 (by omega); have hc := hg.2.2.1 (by omega)
 have key : (Kn.op (i.op - 20) (k i.b.toNat) (k i.c.toNat)).s = false → r i.b.toNat = t i.b.toNat ∧ r i.c.toNat = t i.c.toNat := fun q => by
  have := Bool.or_eq_false_iff.1 q
  exact ⟨h _ hb this.1, h _ hc this.2⟩
 refine ⟨h.set _ (fun q => by rw [(key q).1, (key q).2]), ?_⟩
 dsimp only
 by_cases q : i.op = 29 ∨ i.op = 30
 ·rw [if_pos q, if_pos q]
  unfold J0f at hs
  rw [if_neg h3, if_neg h4, if_neg h6, if_neg h8, if_pos q] at hs
  rw [(key hs).1, (key hs).2]
 ·rw [if_neg q, if_neg q]

end
end
section
open Go.RowKit
set_option linter.unusedSimpArgs false
set_option linter.unusedVariables false
set_option maxRecDepth 8000
set_option maxHeartbeats 2000000 in
theorem J90 (p : Prg) (lo : Loc) (x y : Mem) (l l' : MLoc) (w : World) (hp : PIn w p lo) (hx : MIn w x l) (hy : MIn w y l') (hlx : x.ml = p.rl) (hly : y.ml = p.rl) (hrl : p.rl ≤ 6) (hlen : ∀ c, c < p.rl → x.len c = y.len c ∧ x.len c ≤ 64) (hcv : ∃ a n c, (Value.slice lo.ca p.cl lo.cc) = .slice a n c) :
  Calls Try.prog 15 #[.agg #[.slice lo.ra p.rl lo.rc, .slice lo.ca p.cl lo.cc], .slice l.ma x.ml l.mc, .slice l'.ma y.ml l'.mc] w (Says (PubI p x y) w) := by
 obtain ⟨ma, mb, mo, mc, A, C, gb, go⟩ := l
 obtain ⟨ma', mb', mo', mc', A', C', gb', go'⟩ := l'
 obtain ⟨ra, rb, ro, rc, ca, cb, co, cc⟩ := lo
 have H : Hid (MIn w x ⟨ma, mb, mo, mc, A, C, gb, go⟩ ∧ MIn w y ⟨ma', mb', mo', mc', A', C', gb', go'⟩ ∧ ∀ c, c < p.rl → x.len c = y.len c ∧ x.len c ≤ 64) := ⟨hx, hy, hlen⟩
 have HPn : Hid (PIn w p ⟨ra, rb, ro, rc, ca, cb, co, cc⟩) := hp
 obtain ⟨P, HP⟩ : ∃ P : Prop, Hid (P ↔ PubI p x y) := ⟨PubI p x y, (Iff.rfl : _ ↔ _)⟩
 rw [← propext HP.out]
 clear hx hy hlen hp hcv
 obtain ⟨n, hn⟩ : ∃ n, p.rl = n := ⟨_, rfl⟩
 dsimp only
 rw [hlx, hly, hn]
 rw [hn] at hrl
 have Hn : Hid (p.rl = n ∧ x.ml = n ∧ y.ml = n) := ⟨hn, hlx.trans hn, hly.trans hn⟩
 clear hn hlx hly
 have hri : (n : Int) ≤ 6 := by omega
 obtain ⟨W, HW⟩ : ∃ W : World, Hid (W = w.alloc (.cells #[.slice ra n rc, .slice ca p.cl cc] 25)) := ⟨_, rfl⟩
 have HmW : Hid (More w W) := HW.out ▸ (More.refl _).alloc _ _
 have HB : Hid (Blk W w.heap.size #[.slice ra n rc, .slice ca p.cl cc] 25) := HW.out ▸ Blk.last _ _ _
 go_enter Try.func15, Try.ntmps15
 go_wp2_with (fail)
 rw [← HW.out]
 go_loopg [7] n (fun q i wr => ∃ k : Nat, k + q = n ∧ i = .int .i64 k ∧ Hid (More W wr ∧ ∀ c, c < k → p.sec c = false → ∀ i, i < x.len c → x.wd c i = y.wd c i))
 case atStart => exact ⟨0, by omega, rfl, More.refl _, fun c hc => absurd hc (Nat.not_lt_zero _)⟩
 case round =>
  obtain ⟨k, hkg, rfl, HR⟩ := hrel
  have b0 : wr.cell? ⟨w.heap.size, 0, none⟩ = some (.slice ra n rc) := (HB.out.more HR.out.1).cell rfl
  cases gk with
  | zero =>
   obtain rfl : k = n := by omega
   go_wp2
   go_ret
   exact Says.yes (HP.out.2 (fun c hc => HR.out.2 c (by rw [← Hn.out.1]; exact hc))) (HmW.out.trans HR.out.1)
  | succ q =>
   have hk : k < n := by omega
   have hk' : (k : Int) < (n : Int) := by omega
   have Hk : Hid (k < x.ml ∧ k < y.ml ∧ k < p.rl) := ⟨by rw [Hn.out.2.1]; exact hk, by rw [Hn.out.2.2]; exact hk, by rw [Hn.out.1]; exact hk⟩
   obtain rfl : ra = some ⟨rb, ro, none⟩ := HPn.out.hr (by have := Hk.out; omega)
   have r0 := (HmW.out.trans HR.out.1).cell (HPn.out.regs k Hk.out.2.2).2
   dsimp only at r0
   cases hs : p.sec k with
   | true =>
    rw [hs] at r0
    have Hs : Hid (p.sec k = true) := hs
    clear hs
    go_wp2
    go_roundg q
    case measure => omega
    case rel =>
     refine ⟨k + 1, by omega, by first | rfl | simp, HR.out.1, fun c hc hsc => ?_⟩
     by_cases e : c = k
     ·subst e; rw [Hs.out] at hsc; cases hsc
     ·exact HR.out.2 c (by omega) hsc
   | false =>
    rw [hs] at r0
    have Hse : Hid (p.sec k = false) := hs
    clear hs
    obtain rfl : ma = some ⟨mb, mo, none⟩ := H.out.1.hm (by have := Hk.out.1; omega)
    obtain rfl : ma' = some ⟨mb', mo', none⟩ := H.out.2.1.hm (by have := Hk.out.2.1; omega)
    have q1 := H.out.1.lists k Hk.out.1
    have q2 := H.out.2.1.lists k Hk.out.2.1
    dsimp only at q1 q2
    rw [← (H.out.2.2 k Hk.out.2.2).1] at q2
    obtain ⟨r, hr⟩ : ∃ r, x.len k = r := ⟨_, rfl⟩
    rw [hr] at q1 q2
    have hr64 : r ≤ 64 := by rw [← hr]; exact (H.out.2.2 k Hk.out.2.2).2
    have hri2 : (r : Int) ≤ 64 := by omega
    have HRr : Hid (x.len k = r ∧ y.len k = r) := ⟨hr, by rw [← (H.out.2.2 k Hk.out.2.2).1]; exact hr⟩
    clear hr
    have Ha : Hid (0 < r → A k = some ⟨gb k, go k, none⟩) := fun h => H.out.1.hg k Hk.out.1 (by rw [HRr.out.1]; exact h)
    have Ha' : Hid (0 < r → A' k = some ⟨gb' k, go' k, none⟩) := fun h => H.out.2.1.hg k Hk.out.2.1 (by rw [HRr.out.2]; exact h)
    obtain ⟨Ak, hA⟩ : ∃ z, A k = z := ⟨_, rfl⟩
    obtain ⟨Ak', hA'⟩ : ∃ z, A' k = z := ⟨_, rfl⟩
    rw [hA] at q1 Ha
    rw [hA'] at q2 Ha'
    clear hA hA'
    have Hq : Hid (w.cell? ⟨mb, mo + k, none⟩ = some (.slice Ak r (C k)) ∧ w.cell? ⟨mb', mo' + k, none⟩ = some (.slice Ak' r (C' k))) := ⟨q1, q2⟩
    clear q1 q2
    obtain ⟨wm, rfl⟩ : ∃ wm, wm = wr := ⟨wr, rfl⟩
    go_wp2_with (fail)
    go_loopg [8] r (fun g i wq => ∃ j : Nat, j + g = r ∧ i = .int .i64 j ∧ Hid (More wm wq ∧ ∀ i, i < j → x.wd k i = y.wd k i))
    case atStart => exact ⟨0, by omega, rfl, More.refl _, fun i hi => absurd hi (Nat.not_lt_zero _)⟩
    case round =>
     obtain ⟨j, hjg, rfl, HQ⟩ := hrel
     have Hmq : Hid (More w wr) := (HmW.out.trans HR.out.1).trans HQ.out.1
     have q1 := Hmq.out.cell Hq.out.1
     have q2 := Hmq.out.cell Hq.out.2
     cases gk with
     | zero =>
      obtain rfl : j = r := by omega
      go_wp2
      go_roundg q
      case measure => omega
      case rel =>
       refine ⟨k + 1, by omega, by first | rfl | simp, HR.out.1.trans HQ.out.1, fun c hc hsc => ?_⟩
       by_cases e : c = k
       ·subst e; rw [HRr.out.1]; exact HQ.out.2
       ·exact HR.out.2 c (by omega) hsc
     | succ g =>
      have hj : j < r := by omega
      have hj' : (j : Int) < (r : Int) := by omega
      obtain rfl := Ha.out (by omega)
      obtain rfl := Ha'.out (by omega)
      have p1 := Hmq.out.cell (H.out.1.words k Hk.out.1 j (by rw [HRr.out.1]; exact hj))
      have p2 := Hmq.out.cell (H.out.2.1.words k Hk.out.2.1 j (by rw [HRr.out.2]; exact hj))
      dsimp only at p1 p2
      obtain ⟨z, hz⟩ : ∃ z, x.wd k j = z := ⟨_, rfl⟩
      obtain ⟨z', hz'⟩ : ∃ z, y.wd k j = z := ⟨_, rfl⟩
      rw [hz] at p1
      rw [hz'] at p2
      have Hz : Hid (x.wd k j = z ∧ y.wd k j = z') := ⟨hz, hz'⟩
      clear hz hz'
      obtain ⟨S, HS⟩ : ∃ S : World → Prop, Hid (∀ w', S w' ↔ More wr w') := ⟨fun w' => More wr w', fun _ => Iff.rfl⟩
      have k0 : ∀ i : { w' // S w' }, i.val.cell? ⟨mb, mo + k, none⟩ = some (.slice (some ⟨gb k, go k, none⟩) r (C k)) := fun i => ((HS.out _).1 i.property).cell q1
      have k1 : ∀ i : { w' // S w' }, i.val.cell? ⟨mb', mo' + k, none⟩ = some (.slice (some ⟨gb' k, go' k, none⟩) r (C' k)) := fun i => ((HS.out _).1 i.property).cell q2
      have k2 : ∀ i : { w' // S w' }, i.val.cell? ⟨gb k, go k + j, none⟩ = some (.int .i64 z) := fun i => ((HS.out _).1 i.property).cell p1
      have k3 : ∀ i : { w' // S w' }, i.val.cell? ⟨gb' k, go' k + j, none⟩ = some (.int .i64 z') := fun i => ((HS.out _).1 i.property).cell p2
      have hne : Nonempty { w' // S w' } := ⟨⟨wr, (HS.out _).2 (More.refl _)⟩⟩
      go_wp2_with (fail)
      refine J01 (S := S) [(0, true), (1, true), (2, true), (3, true), (4, true), (5, true), (6, true), (7, true), (8, true), (9, true), (10, true), (11, true), (12, true), (13, true), (14, true)] (by kernel_rfl) (by kernel_rfl) (by kernel_rfl) ((HS.out _).2 (More.refl _).drew) ?_
      iterate 15 (refine J00 rfl (by kernel_rfl) (fun K hK => ?_); go_simp; refine hK _ _ ?_; clear hK K)
      refine J04 ?_
      clear k0 k1 k2 k3 hne p1 p2 q1 q2
      by_cases e : z = z'
      ·have e1 : (z != z') = false := by simp [e]
       have He : Hid (x.wd k j = y.wd k j) := by show _ = _; rw [Hz.out.1, Hz.out.2]; exact e
       clear e
       go_wp2
       go_roundg g
       case measure => omega
       case rel =>
        refine ⟨j + 1, by omega, by first | rfl | simp, HQ.out.1.drew, fun i hi => ?_⟩
        by_cases q : i = j
        ·subst q; exact He.out
        ·exact HQ.out.2 i (by omega)
      ·have e1 : (z != z') = true := by simp [e]
       have He : Hid (¬ x.wd k j = y.wd k j) := by show ¬ _; rw [Hz.out.1, Hz.out.2]; exact e
       clear e
       go_wp2
       go_ret
       exact Says.no (fun h => He.out ((HP.out.1 h) k Hk.out.2.2 Hse.out j (by rw [HRr.out.1]; exact hj))) Hmq.out.drew
end
end Go.Proofs.Ytmpafeoileonjaa
