/-
  The texts HdQuiet, HdShape, HdPlain, HdMask, HdCode, HdClone, HdSame, HdDoes, HdLike, HdMake, HdDone, one behind the other, with what is used of them.
-/
import Derived.Test.YtnppcfkmiddaeabJoined8
import Derived.Test.YtnppcfkmiddaeabJoined10
import Derived.Test.YtnppcfkmiddaeabJoined0
import Derived.Test.YtnppcfkmiddaeabProg
import Derived.Deep.LoopGhost
import Derived.Deep.OwnRows
import Derived.Lib.SliceRun
namespace Go.Proofs.Ytnppcfkmiddaeab
section
open Go.RowKit
set_option linter.unusedSimpArgs false
set_option linter.unusedVariables false
set_option maxRecDepth 8000
theorem J4l {p : Prg} {m : Mem} (h : J1m p.rl p.log m.ml m.len) (c : Nat) (hc : c ≤ m.ml) : (baseN m.len c : Int) = baseI p.log c :=
 J7i p m (fun i hi => h.2.2 i (by rw [← h.2.1]; exact hi)) c hc
theorem Jaq {m : Mem} (h : ∀ j, j < m.ml → ∀ i, i < m.len j → B64 (m.wd j i)) (n : Nat) : B64 (flatM m n) := by
 have key : ∀ k, k ≤ m.ml → B64 (J74 m n k) := fun k => by
  induction k with
  | zero => intro _; exact J3y
  | succ k ih =>
   intro hk
   unfold J74
   by_cases c : baseN m.len k ≤ n ∧ n < baseN m.len k + m.len k
   ·rw [if_pos c]; exact h k (by omega) _ (by omega)
   ·rw [if_neg c]; exact ih (by omega)
 exact key m.ml (Nat.le_refl _)
theorem Jem {p : Prg} {m m' : Mem} (h : J1m p.rl p.log m.ml m.len) (h' : J1m p.rl p.log m'.ml m'.len) (hp : PubI p m m') : ∀ n, PubW p n → flatM m n = flatM m' n := by
 rintro n ⟨c, hc, hs, h1, h2⟩
 have e := J4l h c (by have := h.2.1; omega)
 have e' := J4l h' c (by have := h'.2.1; omega)
 have l1 := h.2.2 c hc
 have l2 := h'.2.2 c hc
 obtain ⟨i, hi⟩ : ∃ i : Nat, n = baseN m.len c + i := ⟨n - baseN m.len c, by omega⟩
 have hi' : n = baseN m'.len c + i := by omega
 rw [hi, J59 m c i (by have := h.2.1; omega) (by omega), ← hi, hi', J59 m' c i (by have := h'.2.1; omega) (by omega)]
 exact hp c hc hs i (by omega)
theorem Jg7 {p : Prg} {m m' x y : Mem} {R R' : Nat → Int} (h : J1m p.rl p.log m.ml m.len) (h' : J1m p.rl p.log m'.ml m'.len) (hx : ∀ j, x.len j = m.len j) (hw : ∀ j, j < m.ml → ∀ i, i < m.len j → x.wd j i = R (baseN m.len j + i)) (hw' : ∀ j, j < m'.ml → ∀ i, i < m'.len j → y.wd j i = R' (baseN m'.len j + i))
  (hR : ∀ n, PubW p n → R n = R' n) : PubI p x y := by
 intro c hc hs i hi
 rw [hx] at hi
 have e := J4l h c (by have := h.2.1; omega)
 have e' := J4l h' c (by have := h'.2.1; omega)
 have l1 := h.2.2 c hc
 have l2 := h'.2.2 c hc
 have eb : baseN m.len c = baseN m'.len c := by omega
 rw [hw c (by have := h.2.1; omega) i hi, hw' c (by have := h'.2.1; omega) i (by omega), ← eb]
 exact hR _ ⟨c, hc, hs, by omega, by omega⟩

set_option maxHeartbeats 4000000 in
theorem J4v (p : Prg) (l : Loc) (m m' : Mem) (ml ml' : MLoc) (sa : Option Addr) (sb so sn sc : Nat) (L : List Int) (fuel : Int) (w : World) (hp : PIn w p l) (hf : p.Fit) (hm : MRaw w m ml) (hwd : ∀ j, j < m.ml → ∀ i, i < m.len j → B64 (m.wd j i)) (hm' : MRaw w m' ml') (hwd' : ∀ j, j < m'.ml → ∀ i, i < m'.len j → B64 (m'.wd j i)) (hL : L.length = sn) (hcap : sn ≤ sc) (hs : SIn w sa sb so L)
  (Q : Prg → Prop) (hQ : ∀ h, Q h → Like8 p h ∧ Still h) (MK : p.Ok 200 8 → ∀ lk, Known p lk → (J0c p lk).1 = 0 → ∀ w1 : World, More w w1 → Makes 21 p l Q w1) :
  Calls Try.prog 9 #[.agg #[.slice l.ra p.rl l.rc, .slice l.ca p.cl l.cc], .slice ml.ma m.ml ml.mc, .slice ml'.ma m'.ml ml'.mc, .slice sa sn sc, .int .i64 fuel] w fun e w' => e = .returned (.bool true) ∧ More w w' := by
 suffices hP : ∀ P : Ending → World → Prop, (∀ w', More w w' → P (.returned (.bool true)) w') → Calls Try.prog 9 #[.agg #[.slice l.ra p.rl l.rc, .slice l.ca p.cl l.cc], .slice ml.ma m.ml ml.mc, .slice ml'.ma m'.ml ml'.mc, .slice sa sn sc, .int .i64 fuel] w P from hP _ (fun w' m => ⟨rfl, m⟩)
 intro P hP0
 have HP : Hid (∀ w', More w w' → P (.returned (.bool true)) w') := hP0
 have H : Hid (PIn w p l ∧ p.Fit ∧ MRaw w m ml ∧ (∀ j, j < m.ml → ∀ i, i < m.len j → B64 (m.wd j i)) ∧ MRaw w m' ml' ∧ (∀ j, j < m'.ml → ∀ i, i < m'.len j → B64 (m'.wd j i)) ∧ (L.length = sn ∧ sn ≤ sc ∧ SIn w sa sb so L) ∧ ∀ h, Q h → Like8 p h ∧ Still h) := ⟨hp, hf, hm, hwd, hm', hwd', ⟨hL, hcap, hs⟩, hQ⟩
 have CK : Hid (p.Ok 200 8 → ∀ lk, Known p lk → (J0c p lk).1 = 0 → ∀ w1 : World, More w w1 → Makes 21 p l Q w1) := MK
 clear hP0 hp hf hm hwd hm' hwd' hQ MK hL hcap hs
 have C1 : Hid (∀ w1 : World, More w w1 → Calls Try.prog 14 #[.agg #[.slice l.ra p.rl l.rc, .slice l.ca p.cl l.cc]] w1 fun e w' => ∃ f : Int × Int, Told p f ∧ e = .returned (.agg #[.int .i64 f.1, .int .i64 f.2]) ∧ More w1 w') := fun w1 m1 => J9h p l w1 (H.out.1.more m1) H.out.2.1
 have CF : Hid (∀ r : Bool, (r = true ↔ J1m p.rl p.log m.ml m.len) → ∀ w1 : World, More w w1 → Calls Try.prog 17 #[.agg #[.slice l.ra p.rl l.rc, .slice l.ca p.cl l.cc], .slice ml.ma m.ml ml.mc] w1 fun e w' => e = .returned (.bool r) ∧ More w1 w') := fun r hr w1 m1 => J8d p l m ml w1 (H.out.1.more m1) (H.out.2.2.1.more m1) r hr
 have CG : Hid (∀ r : Bool, (r = true ↔ J1m p.rl p.log m'.ml m'.len) → ∀ w1 : World, More w w1 → Calls Try.prog 17 #[.agg #[.slice l.ra p.rl l.rc, .slice l.ca p.cl l.cc], .slice ml'.ma m'.ml ml'.mc] w1 fun e w' => e = .returned (.bool r) ∧ More w1 w') := fun r hr w1 m1 => J8d p l m' ml' w1 (H.out.1.more m1) (H.out.2.2.2.2.1.more m1) r hr
 have CU : Hid (p.Ok 200 8 → J1m p.rl p.log m.ml m.len → J1m p.rl p.log m'.ml m'.len → ∀ r : Bool, (r = true ↔ PubI p m m') → ∀ w1 : World, More w w1 → Calls Try.prog 19 #[.agg #[.slice l.ra p.rl l.rc, .slice l.ca p.cl l.cc], .slice ml.ma m.ml ml.mc, .slice ml'.ma m'.ml ml'.mc] w1 fun e w' => e = .returned (.bool r) ∧ More w1 w') := fun hok hf1 hf2 r hr w1 m1 => by
  obtain ⟨f1, f2, f3, f4⟩ := J7b hok hf1
  obtain ⟨g1, g2, g3, g4⟩ := J7b hok hf2
  exact J6c p l m m' ml ml' w1 (H.out.1.more m1) ((H.out.2.2.1.more m1).in_ f2 f4) ((H.out.2.2.2.2.1.more m1).in_ g2 g4) f1 g1 hok.1.1 (fun c hc => ⟨by have := f3 c (by omega); have := g3 c (by omega); omega, f4 c (by omega)⟩) r hr
 have CS : Hid (∀ r : Bool, (r = true ↔ ScOk L) → ∀ w1 : World, More w w1 → Calls Try.prog 26 #[.slice sa sn sc] w1 fun e w' => e = .returned (.bool r) ∧ More w1 w') := fun r hr w1 m1 => by
  refine (Jbr sa sb so sn sc L H.out.2.2.2.2.2.2.1.1 w1 (H.out.2.2.2.2.2.2.1.2.2.more m1)).mono ?_
  rintro e w' ⟨q, rfl, hq, rfl⟩
  have : q = r := Bool.eq_iff_iff.2 (hq.trans hr.symm)
  rw [this]
  exact ⟨rfl, More.refl _⟩
 have CH : Hid (∀ h lh, Q h → p.Ok 200 8 → J1m p.rl p.log m.ml m.len → J1m p.rl p.log m'.ml m'.len → PubI p m m' → ScOk L → 0 ≤ fuel → fuel ≤ 4000 → ∀ w1 : World, More w w1 → PIn w1 h lh →
   (Calls Try.prog 23 #[.agg #[.slice lh.ra h.rl lh.rc, .slice lh.ca h.cl lh.cc]] w1 fun e w' => e = .returned (.bool true) ∧ More w1 w') ∧
   (Calls Try.prog 24 #[.agg #[.slice l.ra p.rl l.rc, .slice l.ca p.cl l.cc], .agg #[.slice lh.ra h.rl lh.rc, .slice lh.ca h.cl lh.cc]] w1 fun e w' => e = .returned (.bool true) ∧ More w1 w') ∧
   (Calls Try.prog 27 #[.agg #[.slice lh.ra h.rl lh.rc, .slice lh.ca h.cl lh.cc], .slice ml.ma m.ml ml.mc, .slice sa sn sc, .int .i64 fuel] w1 (J58 m (playS h (flatM m) L fuel.toNat) w1)) ∧
   (Calls Try.prog 27 #[.agg #[.slice lh.ra h.rl lh.rc, .slice lh.ca h.cl lh.cc], .slice ml'.ma m'.ml ml'.mc, .slice sa sn sc, .int .i64 fuel] w1 (J58 m' (playS h (flatM m') L fuel.toNat) w1))) := fun h lh q hok hf1 hf2 hpub hsc f0 f1 w1 m1 hin => by
  obtain ⟨k, _⟩ := H.out.2.2.2.2.2.2.2 h q
  obtain ⟨g1, g2, g3, g4⟩ := J7b hok hf1
  obtain ⟨i1, i2, i3, i4⟩ := J7b hok hf2
  obtain ⟨fu, rfl⟩ : ∃ fu : Nat, fuel = fu := ⟨fuel.toNat, by omega⟩
  rw [Int.toNat_natCast]
  have hn64 : ∀ i, i < h.cl → B64 (h.ins i).n := fun i hi => (k.fit.ins i hi).2.2.2.2
  refine ⟨Jdu h lh w1 hin k.ok, J88 p h l lh w1 (H.out.1.more m1) hin k.rl k.reg (by have := hok.1.1; omega), ?_, ?_⟩
  ·exact Jdl h lh m ml sa sb so sn sc L fu w1 hin ((H.out.2.2.1.more m1).in_ g2 g4) k.ok hn64 (k.fits hf1) H.out.2.2.2.1 (by omega) H.out.2.2.2.2.2.2.1.1 H.out.2.2.2.2.2.2.1.2.1 (H.out.2.2.2.2.2.2.1.2.2.more m1) hsc
  ·exact Jdl h lh m' ml' sa sb so sn sc L fu w1 hin ((H.out.2.2.2.2.1.more m1).in_ i2 i4) k.ok hn64 (k.fits hf2) H.out.2.2.2.2.2.1 (by omega) H.out.2.2.2.2.2.2.1.1 H.out.2.2.2.2.2.2.1.2.1 (H.out.2.2.2.2.2.2.1.2.2.more m1) hsc
 have HS : Hid (∀ h lh, Q h → p.Ok 200 8 → J1m p.rl p.log m.ml m.len → J1m p.rl p.log m'.ml m'.len → PubI p m m' → ∀ u v mm mm' w1, PIn w1 h lh →
   ShownAt w1 u ⟨(playS h (flatM m) L fuel.toNat).fin, (playS h (flatM m) L fuel.toNat).val, (playS h (flatM m) L fuel.toNat).steps, (playS h (flatM m) L fuel.toNat).seen, mm⟩ → mm.ml = m.ml → (∀ j, mm.len j = m.len j) → (∀ j, j < m.ml → ∀ i, i < m.len j → mm.wd j i = (playS h (flatM m) L fuel.toNat).wd (baseN m.len j + i)) →
   ShownAt w1 v ⟨(playS h (flatM m') L fuel.toNat).fin, (playS h (flatM m') L fuel.toNat).val, (playS h (flatM m') L fuel.toNat).steps, (playS h (flatM m') L fuel.toNat).seen, mm'⟩ → mm'.ml = m'.ml → (∀ j, mm'.len j = m'.len j) → (∀ j, j < m'.ml → ∀ i, i < m'.len j → mm'.wd j i = (playS h (flatM m') L fuel.toNat).wd (baseN m'.len j + i)) →
   Calls Try.prog 20 #[.agg #[.slice lh.ra h.rl lh.rc, .slice lh.ca h.cl lh.cc], u, v] w1 fun e w' => e = .returned (.bool true) ∧ More w1 w') := fun h lh q hok hf1 hf2 hpub u v mm mm' w1 hin hu u1 u2 u3 hv v1 v2 v3 => by
  obtain ⟨k, W, lab, I, hW, T, I0⟩ := H.out.2.2.2.2.2.2.2 h q
  have hV := fun n => hW _ (Jaq H.out.2.2.2.1 n)
  have hV' := fun n => hW _ (Jaq H.out.2.2.2.2.2.1 n)
  have hpub' : PubI h m m' := fun c hc hs i hi => hpub c (by rw [k.rl]; exact hc) (by rw [(k.reg c (by rw [k.rl]; exact hc)).2]; exact hs) i hi
  have g1 := k.fits hf1
  have g2 := k.fits hf2
  obtain ⟨q1, q2, q3, q4, q5⟩ := J9o T I0 (flatM m) (flatM m') (Jem g1 g2 hpub') hV hV' L fuel.toNat
  obtain ⟨su, lu, rfl, hu1, hu2⟩ := hu
  obtain ⟨sv, lv, rfl, hv1, hv2⟩ := hv
  dsimp only at hu1 hu2 hv1 hv2 ⊢
  have hrl6 : h.rl ≤ 6 := k.ok.1.1
  rw [← q1, ← q2, ← q3]
  rw [← q4] at hv1
  refine Jg4 _ _ ⟨_, _, _, rfl⟩ ⟨_, _, _, rfl⟩ _ _ _ su sv _ _ w1 (J6q hu1) (J6q hv1) ⟨_, _, _, rfl⟩ ⟨_, _, _, rfl⟩ (fun w2 m2 => Jez su sv _ w2 (hu1.more m2) (hv1.more m2)) (fun w2 m2 => ?_)
  refine J6c h lh mm mm' lu lv w2 (hin.more m2) (hu2.more m2) (hv2.more m2) (u1.trans g1.2.1) (v1.trans g2.2.1) hrl6 (fun c hc => ?_) true ⟨fun _ => Jg7 g1 g2 u2 u3 v3 q5, fun _ => rfl⟩
  rw [u2, v2]
  have e1 := g1.2.2 c hc
  have e2 := g2.2.2 c hc
  have e3 := k.ok.1.2 c hc
  have e4 := J1s (k := (h.log c).toNat) (by omega)
  unfold J0e at e1 e2
  exact ⟨by omega, by omega⟩
 clear H
 obtain ⟨ra, Hra⟩ : ∃ x, Hid (l.ra = x) := ⟨_, rfl⟩
 obtain ⟨rl, Hrl⟩ : ∃ x, Hid (p.rl = x) := ⟨_, rfl⟩
 obtain ⟨rc, Hrc⟩ : ∃ x, Hid (l.rc = x) := ⟨_, rfl⟩
 obtain ⟨ca, Hca⟩ : ∃ x, Hid (l.ca = x) := ⟨_, rfl⟩
 obtain ⟨cl, Hcl⟩ : ∃ x, Hid (p.cl = x) := ⟨_, rfl⟩
 obtain ⟨cc, Hcc⟩ : ∃ x, Hid (l.cc = x) := ⟨_, rfl⟩
 obtain ⟨mv, Hmv⟩ : ∃ x, Hid (Value.slice ml.ma m.ml ml.mc = x) := ⟨_, rfl⟩
 obtain ⟨nv, Hnv⟩ : ∃ x, Hid (Value.slice ml'.ma m'.ml ml'.mc = x) := ⟨_, rfl⟩
 obtain ⟨sv, Hsv⟩ : ∃ x, Hid (Value.slice sa sn sc = x) := ⟨_, rfl⟩
 obtain ⟨FA, HFA⟩ : ∃ x : Prop, Hid (J1m p.rl p.log m.ml m.len = x) := ⟨_, rfl⟩
 obtain ⟨FB, HFB⟩ : ∃ x : Prop, Hid (J1m p.rl p.log m'.ml m'.len = x) := ⟨_, rfl⟩
 unfold Makes at CK
 rw [HFA.out] at CF CU CH HS
 rw [HFB.out] at CG CU CH HS
 rw [Hmv.out] at CF CU CH
 rw [Hnv.out] at CG CU CH
 rw [Hsv.out] at CS CH
 rw [Hra.out, Hrl.out, Hrc.out, Hca.out, Hcl.out, Hcc.out] at C1 CF CG CU CK CH
 rw [Hra.out, Hrl.out, Hrc.out, Hca.out, Hcl.out, Hcc.out, Hmv.out, Hnv.out, Hsv.out]
 clear Hmv Hnv Hsv HFA HFB Hra Hrl Hrc Hca Hcl Hcc
 go_enter Try.func9, Try.ntmps9
 go_wp2_with (fail)
 refine (C1.out _ ((More.refl _).alloc _ _)).mono ?_
 rintro e w1 ⟨⟨f1, f2⟩, hT, rfl, m1⟩
 dsimp only at hT ⊢
 have Hm1 : Hid (More w w1) := ((More.refl _).alloc _ _).trans m1
 have Hp1 : Hid (Blk w1 w.heap.size #[.slice ra rl rc, .slice ca cl cc] 30) := (Blk.last _ _ _).more m1
 have HT : Hid (Told p (f1, f2)) := hT
 clear m1 hT C1
 by_cases h0 : f1 = 0
 ·subst h0
  obtain ⟨hok, lk, hk, hk0⟩ := HT.out.ok rfl
  have HO : Hid (p.Ok 200 8 ∧ Known p lk ∧ (J0c p lk).1 = 0) := ⟨hok, hk, hk0⟩
  clear hok hk hk0 HT
  have c0 : w1.cell? ⟨w.heap.size, 0, none⟩ = some (.slice ra rl rc) := Hp1.out.cell rfl
  have c1 : w1.cell? ⟨w.heap.size, 1, none⟩ = some (.slice ca cl cc) := Hp1.out.cell rfl
  have z1 := Hp1.out.lt
  by_cases hA : FA
  ·have D : Hid (∀ w1 : World, More w w1 → Calls Try.prog 17 #[.agg #[.slice ra rl rc, .slice ca cl cc], mv] w1 fun e w' => e = .returned (.bool true) ∧ More w1 w') := CF.out true ⟨fun _ => hA, fun _ => rfl⟩
   clear CF
   go_wp2_with (fail)
   refine (D.out _ (Hm1.out.alloc _ _)).mono ?_
   rintro e w2 ⟨rfl, m_⟩
   have Hm2 : Hid (More w w2) := (Hm1.out.alloc _ _).trans m_
   have Hp2 : Hid (Blk w2 w.heap.size #[.slice ra rl rc, .slice ca cl cc] 30) := (Hp1.out.alloc _ _).more m_
   clear m_ c0 c1 z1 D
   have c0 : w2.cell? ⟨w.heap.size, 0, none⟩ = some (.slice ra rl rc) := Hp2.out.cell rfl
   have c1 : w2.cell? ⟨w.heap.size, 1, none⟩ = some (.slice ca cl cc) := Hp2.out.cell rfl
   by_cases hB : FB
   ·have D : Hid (∀ w1 : World, More w w1 → Calls Try.prog 17 #[.agg #[.slice ra rl rc, .slice ca cl cc], nv] w1 fun e w' => e = .returned (.bool true) ∧ More w1 w') := CG.out true ⟨fun _ => hB, fun _ => rfl⟩
    clear CG
    go_wp2_with (fail)
    refine (D.out _ Hm2.out).mono ?_
    rintro e w3 ⟨rfl, m_⟩
    have Hm3 : Hid (More w w3) := Hm2.out.trans m_
    have Hp3 : Hid (Blk w3 w.heap.size #[.slice ra rl rc, .slice ca cl cc] 30) := Hp2.out.more m_
    clear m_ c0 c1 D
    have c0 : w3.cell? ⟨w.heap.size, 0, none⟩ = some (.slice ra rl rc) := Hp3.out.cell rfl
    have c1 : w3.cell? ⟨w.heap.size, 1, none⟩ = some (.slice ca cl cc) := Hp3.out.cell rfl
    by_cases hU : PubI p m m'
    ·have D : Hid (∀ w1 : World, More w w1 → Calls Try.prog 19 #[.agg #[.slice ra rl rc, .slice ca cl cc], mv, nv] w1 fun e w' => e = .returned (.bool true) ∧ More w1 w') := CU.out HO.out.1 hA hB true ⟨fun _ => hU, fun _ => rfl⟩
     clear CU
     go_wp2_with (fail)
     refine (D.out _ Hm3.out).mono ?_
     rintro e w4 ⟨rfl, m_⟩
     have Hm4 : Hid (More w w4) := Hm3.out.trans m_
     have Hp4 : Hid (Blk w4 w.heap.size #[.slice ra rl rc, .slice ca cl cc] 30) := Hp3.out.more m_
     clear m_ c0 c1 D
     have c0 : w4.cell? ⟨w.heap.size, 0, none⟩ = some (.slice ra rl rc) := Hp4.out.cell rfl
     have c1 : w4.cell? ⟨w.heap.size, 1, none⟩ = some (.slice ca cl cc) := Hp4.out.cell rfl
     by_cases hS : ScOk L
     ·have D : Hid (∀ w1 : World, More w w1 → Calls Try.prog 26 #[sv] w1 fun e w' => e = .returned (.bool true) ∧ More w1 w') := CS.out true ⟨fun _ => hS, fun _ => rfl⟩
      clear CS
      go_wp2_with (fail)
      refine (D.out _ Hm4.out).mono ?_
      rintro e w5 ⟨rfl, m_⟩
      have Hm5 : Hid (More w w5) := Hm4.out.trans m_
      have Hp5 : Hid (Blk w5 w.heap.size #[.slice ra rl rc, .slice ca cl cc] 30) := Hp4.out.more m_
      clear m_ c0 c1 D
      have c0 : w5.cell? ⟨w.heap.size, 0, none⟩ = some (.slice ra rl rc) := Hp5.out.cell rfl
      have c1 : w5.cell? ⟨w.heap.size, 1, none⟩ = some (.slice ca cl cc) := Hp5.out.cell rfl
      by_cases hf0 : fuel < 0
      ·have d0 : decide (fuel < 0) = true := by simp [hf0]
       have Hend : Hid (P (.returned (.bool true)) w5) := HP.out _ Hm5.out
       clear CK CH HS HP
       go_wp2
       exact Hend.out
      have d0 : decide (fuel < 0) = false := by simp; omega
      by_cases hf1 : 4000 < fuel
      ·have d1 : decide (4000 < fuel) = true := by simp [hf1]
       have Hend : Hid (P (.returned (.bool true)) w5) := HP.out _ Hm5.out
       clear CK CH HS HP
       go_wp2
       exact Hend.out
      have d1 : decide (4000 < fuel) = false := by simp; omega
      have CK1 := CK.out HO.out.1 lk HO.out.2.1 HO.out.2.2
      have CK2 : Hid (∀ w1 : World, More w w1 → Calls Try.prog 21 #[.agg #[.slice ra rl rc, .slice ca cl cc]] w1 fun e w' => ∃ (h : Prg) (lh : Loc), Q h ∧ PIn w' h lh ∧ e = .returned (.tuple #[.agg #[.slice lh.ra h.rl lh.rc, .slice lh.ca h.cl lh.cc], .agg #[.int .i64 0, .int .i64 0]]) ∧ More w1 w') := CK1
      clear CK CK1
      go_wp2_with (fail)
      refine (CK2.out _ Hm5.out).mono ?_
      rintro e w6 ⟨h, lh, hq, hin, rfl, m6⟩
      have CH1 : Hid (∀ w1 : World, More w w1 → PIn w1 h lh → _) := CH.out h lh hq HO.out.1 hA hB hU hS (by omega) (by omega)
      have HS1 := HS.out h lh hq HO.out.1 hA hB hU
      obtain ⟨X, HX⟩ : ∃ X, Hid (playS h (flatM m) L fuel.toNat = X) := ⟨_, rfl⟩
      obtain ⟨Y, HY⟩ : ∃ Y, Hid (playS h (flatM m') L fuel.toNat = Y) := ⟨_, rfl⟩
      rw [HX.out, HY.out] at CH1 HS1
      have HS2 : Hid (∀ u v mm mm' w1, PIn w1 h lh → ShownAt w1 u ⟨X.fin, X.val, X.steps, X.seen, mm⟩ → mm.ml = m.ml → (∀ j, mm.len j = m.len j) → (∀ j, j < m.ml → ∀ i, i < m.len j → mm.wd j i = X.wd (baseN m.len j + i)) →
        ShownAt w1 v ⟨Y.fin, Y.val, Y.steps, Y.seen, mm'⟩ → mm'.ml = m'.ml → (∀ j, mm'.len j = m'.len j) → (∀ j, j < m'.ml → ∀ i, i < m'.len j → mm'.wd j i = Y.wd (baseN m'.len j + i)) →
        Calls Try.prog 20 #[.agg #[.slice lh.ra h.rl lh.rc, .slice lh.ca h.cl lh.cc], u, v] w1 fun e w' => e = .returned (.bool true) ∧ More w1 w') := HS1
      clear CH HS HS1
      have Hm6 : Hid (More w w6) := Hm5.out.trans m6
      have Hp6 : Hid (Blk w6 w.heap.size #[.slice ra rl rc, .slice ca cl cc] 30) := Hp5.out.more m6
      have Hin6 : Hid (PIn w6 h lh) := hin
      obtain ⟨ra', Hra'⟩ : ∃ x, Hid (lh.ra = x) := ⟨_, rfl⟩
      obtain ⟨rl', Hrl'⟩ : ∃ x, Hid (h.rl = x) := ⟨_, rfl⟩
      obtain ⟨rc', Hrc'⟩ : ∃ x, Hid (lh.rc = x) := ⟨_, rfl⟩
      obtain ⟨ca', Hca'⟩ : ∃ x, Hid (lh.ca = x) := ⟨_, rfl⟩
      obtain ⟨cl', Hcl'⟩ : ∃ x, Hid (h.cl = x) := ⟨_, rfl⟩
      obtain ⟨cc', Hcc'⟩ : ∃ x, Hid (lh.cc = x) := ⟨_, rfl⟩
      rw [Hra'.out, Hrl'.out, Hrc'.out, Hca'.out, Hcl'.out, Hcc'.out] at CH1 HS2 ⊢
      clear hin hq m6 c0 c1 CK2 HX HY
      have c0 : w6.cell? ⟨w.heap.size, 0, none⟩ = some (.slice ra rl rc) := Hp6.out.cell rfl
      have c1 : w6.cell? ⟨w.heap.size, 1, none⟩ = some (.slice ca cl cc) := Hp6.out.cell rfl
      have z6 := Hp6.out.lt
      obtain ⟨w7, Hw7⟩ : ∃ w_ : World, Hid (w_ = (w6.alloc (.cells #[.slice ra' rl' rc', .slice ca' cl' cc'] 30)).alloc (.cells #[.int .i64 0, .int .i64 0] 33)) := ⟨_, rfl⟩
      have Hm7 : Hid (More w6 w7) := by rw [Hw7.out]; exact ((More.refl _).alloc _ _).alloc _ _
      have Hb7 : Hid (Blk w7 w6.heap.size #[.slice ra' rl' rc', .slice ca' cl' cc'] 30) := by rw [Hw7.out]; exact (Blk.last _ _ _).alloc _ _
      go_wp2_with (fail)
      rw [← Hw7.out]
      refine (CH1.out w7 (Hm6.out.trans Hm7.out) (Hin6.out.more Hm7.out)).1.mono ?_
      rintro e w8 ⟨rfl, m8⟩
      have Hm8 : Hid (More w6 w8) := Hm7.out.trans m8
      have Hb8 : Hid (Blk w8 w6.heap.size #[.slice ra' rl' rc', .slice ca' cl' cc'] 30) := Hb7.out.more m8
      have Hp8 : Hid (Blk w8 w.heap.size #[.slice ra rl rc, .slice ca cl cc] 30) := Hp6.out.more Hm8.out
      clear m8 c0 c1 z6
      have c0 : w8.cell? ⟨w.heap.size, 0, none⟩ = some (.slice ra rl rc) := Hp8.out.cell rfl
      have c1 : w8.cell? ⟨w.heap.size, 1, none⟩ = some (.slice ca cl cc) := Hp8.out.cell rfl
      have b0 : w8.cell? ⟨w6.heap.size, 0, none⟩ = some (.slice ra' rl' rc') := Hb8.out.cell rfl
      have b1 : w8.cell? ⟨w6.heap.size, 1, none⟩ = some (.slice ca' cl' cc') := Hb8.out.cell rfl
      go_wp2_with (fail)
      refine (CH1.out w8 (Hm6.out.trans Hm8.out) (Hin6.out.more Hm8.out)).2.1.mono ?_
      rintro e w9 ⟨rfl, m9⟩
      have Hm9 : Hid (More w6 w9) := Hm8.out.trans m9
      have Hb9 : Hid (Blk w9 w6.heap.size #[.slice ra' rl' rc', .slice ca' cl' cc'] 30) := Hb8.out.more m9
      clear m9 c0 c1 b0 b1
      have b0 : w9.cell? ⟨w6.heap.size, 0, none⟩ = some (.slice ra' rl' rc') := Hb9.out.cell rfl
      have b1 : w9.cell? ⟨w6.heap.size, 1, none⟩ = some (.slice ca' cl' cc') := Hb9.out.cell rfl
      go_wp2_with (fail)
      refine (CH1.out w9 (Hm6.out.trans Hm9.out) (Hin6.out.more Hm9.out)).2.2.1.mono ?_
      rintro e wa ⟨u, mm, rfl, hu, u1, u2, u3, ma⟩
      have hu0 := hu
      obtain ⟨su, lu, rfl, hu1, hu2⟩ := hu
      obtain ⟨xa, xb, xo, xc, rfl, _⟩ := hu1
      dsimp only at hu0 ⊢
      obtain ⟨x1, hx1⟩ : ∃ x, X.fin = x := ⟨_, rfl⟩
      obtain ⟨x2, hx2⟩ : ∃ x, X.val = x := ⟨_, rfl⟩
      obtain ⟨x3, hx3⟩ : ∃ x, X.steps = x := ⟨_, rfl⟩
      obtain ⟨x4, hx4⟩ : ∃ x, X.seen.length = x := ⟨_, rfl⟩
      obtain ⟨x5, hx5⟩ : ∃ x, mm.ml = x := ⟨_, rfl⟩
      have Hx : Hid (X.fin = x1 ∧ X.val = x2 ∧ X.steps = x3) := ⟨hx1, hx2, hx3⟩
      have Hu3 : Hid (mm.ml = m.ml ∧ (∀ j, mm.len j = m.len j) ∧ ∀ j, j < m.ml → ∀ i, i < m.len j → mm.wd j i = X.wd (baseN m.len j + i)) := ⟨u1, u2, u3⟩
      have Hu : Hid (ShownAt wa (.agg #[.int .i64 x1, .int .i64 x2, .int .i64 x3, .slice xa x4 xc, .slice lu.ma x5 lu.mc]) ⟨X.fin, X.val, X.steps, X.seen, mm⟩) := by
       have q := hu0
       rw [hx4, hx5] at q
       rw [← hx1, ← hx2, ← hx3]
       exact q
      rw [hx1, hx2, hx3, hx4, hx5]
      have Hma : Hid (More w6 wa) := Hm9.out.trans ma
      have Hba : Hid (Blk wa w6.heap.size #[.slice ra' rl' rc', .slice ca' cl' cc'] 30) := Hb9.out.more ma
      obtain ⟨wb, Hwb⟩ : ∃ w_ : World, Hid (w_ = wa.alloc (.cells #[.int .i64 x1, .int .i64 x2, .int .i64 x3, .slice xa x4 xc, .slice lu.ma x5 lu.mc] 41)) := ⟨_, rfl⟩
      have Hmb : Hid (More wa wb) := Hwb.out ▸ (More.refl _).alloc _ _
      have Hcb : Hid (Blk wb wa.heap.size #[.int .i64 x1, .int .i64 x2, .int .i64 x3, .slice xa x4 xc, .slice lu.ma x5 lu.mc] 41) := Hwb.out ▸ Blk.last _ _ _
      clear hu0 hu2 ma hx1 hx2 hx3 hx4 hx5 u1 u2 u3 b0 b1
      have b0 : wa.cell? ⟨w6.heap.size, 0, none⟩ = some (.slice ra' rl' rc') := Hba.out.cell rfl
      have b1 : wa.cell? ⟨w6.heap.size, 1, none⟩ = some (.slice ca' cl' cc') := Hba.out.cell rfl
      have za := Hba.out.lt
      go_wp2_with (fail)
      rw [← Hwb.out]
      refine (CH1.out wb (Hm6.out.trans (Hma.out.trans Hmb.out)) (Hin6.out.more (Hma.out.trans Hmb.out))).2.2.2.mono ?_
      rintro e wc ⟨v, mm', rfl, hv, v1, v2, v3, mc⟩
      have hv0 := hv
      obtain ⟨sv_, lv, rfl, hv1, hv2⟩ := hv
      obtain ⟨ya, yb, yo, yc, rfl, _⟩ := hv1
      dsimp only at hv0 ⊢
      obtain ⟨y1, hy1⟩ : ∃ x, Y.fin = x := ⟨_, rfl⟩
      obtain ⟨y2, hy2⟩ : ∃ x, Y.val = x := ⟨_, rfl⟩
      obtain ⟨y3, hy3⟩ : ∃ x, Y.steps = x := ⟨_, rfl⟩
      obtain ⟨y4, hy4⟩ : ∃ x, Y.seen.length = x := ⟨_, rfl⟩
      obtain ⟨y5, hy5⟩ : ∃ x, mm'.ml = x := ⟨_, rfl⟩
      have Hv : ShownAt wc (.agg #[.int .i64 y1, .int .i64 y2, .int .i64 y3, .slice ya y4 yc, .slice lv.ma y5 lv.mc]) ⟨Y.fin, Y.val, Y.steps, Y.seen, mm'⟩ := by
       have q := hv0
       rw [hy4, hy5] at q
       rw [← hy1, ← hy2, ← hy3]
       exact q
      rw [hy1, hy2, hy3, hy4, hy5]
      obtain ⟨wd, Hwd⟩ : ∃ w_ : World, Hid (w_ = wc.alloc (.cells #[.int .i64 y1, .int .i64 y2, .int .i64 y3, .slice ya y4 yc, .slice lv.ma y5 lv.mc] 41)) := ⟨_, rfl⟩
      have Hmd : Hid (More wc wd) := Hwd.out ▸ (More.refl _).alloc _ _
      have HMd : Hid (More w6 wd) := (Hma.out.trans Hmb.out).trans (mc.trans Hmd.out)
      have CQ : Hid (Calls Try.prog 20 #[.agg #[.slice ra' rl' rc', .slice ca' cl' cc'], .agg #[.int .i64 x1, .int .i64 x2, .int .i64 x3, .slice xa x4 xc, .slice lu.ma x5 lu.mc], .agg #[.int .i64 y1, .int .i64 y2, .int .i64 y3, .slice ya y4 yc, .slice lv.ma y5 lv.mc]] wd fun e w' => e = .returned (.bool true) ∧ More wd w') :=
       HS2.out _ _ mm mm' wd (Hin6.out.more HMd.out) (Hu.out.more (Hmb.out.trans (mc.trans Hmd.out))) Hu3.out.1 Hu3.out.2.1 Hu3.out.2.2 (Hv.more Hmd.out) v1 v2 v3
      have Hcc_ : Hid (Blk wc wa.heap.size #[.int .i64 x1, .int .i64 x2, .int .i64 x3, .slice xa x4 xc, .slice lu.ma x5 lu.mc] 41) := Hcb.out.more mc
      have Hbc : Hid (Blk wc w6.heap.size #[.slice ra' rl' rc', .slice ca' cl' cc'] 30) := Hba.out.more (Hmb.out.trans mc)
      clear hv0 hv2 mc hy1 hy2 hy3 hy4 hy5 v1 v2 v3 Hv b0 b1 za CH1 HS2
      have a0 : wc.cell? ⟨wa.heap.size, 0, none⟩ = some (.int .i64 x1) := Hcc_.out.cell rfl
      have a1 : wc.cell? ⟨wa.heap.size, 1, none⟩ = some (.int .i64 x2) := Hcc_.out.cell rfl
      have a2 : wc.cell? ⟨wa.heap.size, 2, none⟩ = some (.int .i64 x3) := Hcc_.out.cell rfl
      have a3 : wc.cell? ⟨wa.heap.size, 3, none⟩ = some (.slice xa x4 xc) := Hcc_.out.cell rfl
      have a4 : wc.cell? ⟨wa.heap.size, 4, none⟩ = some (.slice lu.ma x5 lu.mc) := Hcc_.out.cell rfl
      have b0 : wc.cell? ⟨w6.heap.size, 0, none⟩ = some (.slice ra' rl' rc') := Hbc.out.cell rfl
      have b1 : wc.cell? ⟨w6.heap.size, 1, none⟩ = some (.slice ca' cl' cc') := Hbc.out.cell rfl
      have zc := Hcc_.out.lt
      have zd := Hbc.out.lt
      go_wp2_with (fail)
      rw [← Hwd.out]
      refine CQ.out.mono ?_
      rintro e wz ⟨rfl, mz⟩
      have Hend : Hid (P (.returned (.bool true)) wz) := HP.out _ ((Hm6.out.trans HMd.out).trans mz)
      clear mz CQ a0 a1 a2 a3 a4 b0 b1
      go_wp2
      exact Hend.out
     ·have D : Hid (∀ w1 : World, More w w1 → Calls Try.prog 26 #[sv] w1 fun e w' => e = .returned (.bool false) ∧ More w1 w') := CS.out false ⟨fun q => absurd q (by simp), fun q => absurd q hS⟩
      clear CS CK CH HS
      go_wp2_with (fail)
      refine (D.out _ Hm4.out).mono ?_
      rintro e w5 ⟨rfl, m_⟩
      have Hend : Hid (P (.returned (.bool true)) w5) := HP.out _ (Hm4.out.trans m_)
      clear m_ D
      go_wp2
      exact Hend.out
    ·have D : Hid (∀ w1 : World, More w w1 → Calls Try.prog 19 #[.agg #[.slice ra rl rc, .slice ca cl cc], mv, nv] w1 fun e w' => e = .returned (.bool false) ∧ More w1 w') := CU.out HO.out.1 hA hB false ⟨fun q => absurd q (by simp), fun q => absurd q hU⟩
     clear CU CS CK CH HS
     go_wp2_with (fail)
     refine (D.out _ Hm3.out).mono ?_
     rintro e w4 ⟨rfl, m_⟩
     have Hend : Hid (P (.returned (.bool true)) w4) := HP.out _ (Hm3.out.trans m_)
     clear m_ D
     go_wp2
     exact Hend.out
   ·have D : Hid (∀ w1 : World, More w w1 → Calls Try.prog 17 #[.agg #[.slice ra rl rc, .slice ca cl cc], nv] w1 fun e w' => e = .returned (.bool false) ∧ More w1 w') := CG.out false ⟨fun q => absurd q (by simp), fun q => absurd q hB⟩
    clear CG CU CS CK CH HS
    go_wp2_with (fail)
    refine (D.out _ Hm2.out).mono ?_
    rintro e w3 ⟨rfl, m_⟩
    have Hend : Hid (P (.returned (.bool true)) w3) := HP.out _ (Hm2.out.trans m_)
    clear m_ D
    go_wp2
    exact Hend.out
  ·have D : Hid (∀ w1 : World, More w w1 → Calls Try.prog 17 #[.agg #[.slice ra rl rc, .slice ca cl cc], mv] w1 fun e w' => e = .returned (.bool false) ∧ More w1 w') := CF.out false ⟨fun q => absurd q (by simp), fun q => absurd q hA⟩
   clear CF CG CU CS CK CH HS
   go_wp2_with (fail)
   refine (D.out _ (Hm1.out.alloc _ _)).mono ?_
   rintro e w2 ⟨rfl, m_⟩
   have Hend : Hid (P (.returned (.bool true)) w2) := HP.out _ ((Hm1.out.alloc _ _).trans m_)
   clear m_ D
   go_wp2
   exact Hend.out
 ·have e0 : (f1 == 0) = false := by simp [h0]
  have e1 : (f1 != 0) = true := by simp [h0]
  have Hend : Hid (∀ w', More w1 w' → P (.returned (.bool true)) w') := fun w' m' => HP.out _ (Hm1.out.trans m')
  clear h0 CF CG CU CS CK CH HS HT
  go_wp2
  exact Hend.out _ ((More.refl _).alloc _ _)
end
section
open Go.RowKit
set_option linter.unusedSimpArgs false
set_option linter.unusedVariables false
def sizeK (p : Prg) (k : Nat) : Nat := if (p.ins k).op = 3 ∨ (p.ins k).op = 4 then 3 else 1

structure Hdn (p h : Prg) (st : Nat → Nat) (X : Int) : Prop where
  x : X = 8 ∨ X = 9
  rl : p.rl = h.rl
  reg : ∀ i, i < p.rl → p.log i = h.log i ∧ p.sec i = h.sec i
  s0 : st 0 = 0
  next : ∀ k, k < p.cl → st (k + 1) = st k + sizeK p k
  cl : h.cl = st p.cl
  mem : ∀ k, k < p.cl → (p.ins k).op = 3 ∨ (p.ins k).op = 4 → h.ins (st k) = ⟨10, X, (p.ins k).b, 0, (p.ins k).n⟩ ∧ h.ins (st k + 1) = ⟨11, X, 0, 0, J0e (p.log (p.ins k).c.toNat)⟩ ∧ h.ins (st k + 2) = ⟨(p.ins k).op, (p.ins k).a, X, (p.ins k).c, 0⟩
  go : ∀ k, k < p.cl → (p.ins k).op = 7 ∨ (p.ins k).op = 8 → h.ins (st k) = ⟨(p.ins k).op, (p.ins k).a, (p.ins k).b, (p.ins k).c, (st (p.ins k).n.toNat : Int)⟩
  copy : ∀ k, k < p.cl → ¬ ((p.ins k).op = 3 ∨ (p.ins k).op = 4) → ¬ ((p.ins k).op = 7 ∨ (p.ins k).op = 8) → h.ins (st k) = p.ins k

theorem J13 (p : Prg) (k : Nat) : 1 ≤ sizeK p k ∧ sizeK p k ≤ 3 := by unfold sizeK; split <;> omega
theorem J1z {p : Prg} {k : Nat} (h : (p.ins k).op = 3 ∨ (p.ins k).op = 4) : sizeK p k = 3 := by unfold sizeK; rw [if_pos h]
theorem J2n {p : Prg} {k : Nat} (h : ¬ ((p.ins k).op = 3 ∨ (p.ins k).op = 4)) : sizeK p k = 1 := by unfold sizeK; rw [if_neg h]

section
variable {p h : Prg} {st : Nat → Nat} {X : Int} {l : KV}

theorem Hdn.mono (S : Hdn p h st X) : ∀ (b a : Nat), a < b → b ≤ p.cl → st a + sizeK p a ≤ st b
  | 0, a, h1, _ => absurd h1 (Nat.not_lt_zero _)
  | b + 1, a, h1, h2 => by
    have e := S.next b (by omega)
    have := (J13 p b).1
    by_cases q : a = b
    · subst q; omega
    · have := S.mono b a (by omega) (by omega); omega
theorem Hdn.uniq (S : Hdn p h st X) {k k' o o' : Nat} (hk : k < p.cl) (hk' : k' < p.cl) (ho : o < sizeK p k) (ho' : o' < sizeK p k') (e : st k + o = st k' + o') : k = k' ∧ o = o' := by
  rcases Nat.lt_trichotomy k k' with q | q | q
  · have := S.mono k' k q (by omega); omega
  · subst q; exact ⟨rfl, by omega⟩
  · have := S.mono k k' q (by omega); omega
theorem Hdn.xn (S : Hdn p h st X) : 8 ≤ X.toNat ∧ X.toNat < 10 := by rcases S.x with q | q <;> omega

def ShI (p : Prg) (st : Nat → Nat) (X : Int) (l : KV) (q : Nat) (r : Nat → Int) : Prop :=
  ∃ k o s, k < p.cl ∧ o < sizeK p k ∧ q = st k + o ∧ l k = some s ∧ (o = 2 → 0 ≤ r X.toNat ∧ r X.toNat < J0e (p.log (p.ins k).c.toNat))
def ShSec (p : Prg) (st : Nat → Nat) (l : KV) (q j : Nat) : Prop := ∃ k o s, k < p.cl ∧ o < sizeK p k ∧ q = st k + o ∧ l k = some s ∧ j < 8 ∧ (s j).s = true

variable {lab : Nat → Nat → Bool}
theorem J8s (S : Hdn p h st X) (hl : ∀ q j, lab q j = true ↔ ShSec p st l q j) {k o : Nat} {s : KS} (hk : k < p.cl) (ho : o < sizeK p k) (e : l k = some s) (j : Nat) : lab (st k + o) j = true ↔ j < 8 ∧ (s j).s = true := by
  rw [hl]
  constructor
  · rintro ⟨k', o', s', h1, h2, h3, h4, h5, h6⟩
    obtain ⟨rfl, rfl⟩ := S.uniq hk h1 ho h2 h3
    rw [e] at h4; cases h4
    exact ⟨h5, h6⟩
  · rintro ⟨h5, h6⟩
    exact ⟨k, o, s, hk, ho, rfl, e, h5, h6⟩
theorem J4o (S : Hdn p h st X) (hl : ∀ q j, lab q j = true ↔ ShSec p st l q j) {k o : Nat} {s : KS} (hk : k < p.cl) (ho : o < sizeK p k) (e : l k = some s) (j : Nat) : lab (st k + o) j = false ↔ (j < 8 → (s j).s = false) := by
  have := J8s S hl hk ho e j
  cases q : lab (st k + o) j with
  | true =>
    rw [q] at this
    have t := this.1 rfl
    exact ⟨fun w => (by cases w), fun w => absurd t.2 (by rw [w t.1]; simp)⟩
  | false =>
    rw [q] at this
    refine ⟨fun _ hj => ?_, fun _ => rfl⟩
    cases q2 : (s j).s with
    | false => rfl
    | true => exact absurd (this.2 ⟨hj, q2⟩) (by simp)
theorem J5a (S : Hdn p h st X) (hl : ∀ q j, lab q j = true ↔ ShSec p st l q j) {k o : Nat} {s : KS} (hk : k < p.cl) (ho : o < sizeK p k) (e : l k = some s) {r t : Nat → Int} (hr : ∀ j, j < 10 → lab (st k + o) j = false → r j = t j) : EqS s r t ∧ ∀ j, 8 ≤ j → j < 10 → r j = t j :=
  ⟨fun j hj q => hr j (by omega) ((J4o S hl hk ho e j).2 (fun _ => q)), fun j h8 h10 => hr j h10 ((J4o S hl hk ho e j).2 (fun q => by omega))⟩
theorem J6b (S : Hdn p h st X) (hl : ∀ q j, lab q j = true ↔ ShSec p st l q j) {k o : Nat} {s : KS} (hk : k < p.cl) (ho : o < sizeK p k) (e : l k = some s) {r t : Nat → Int} (h1 : EqS s r t) (h2 : ∀ j, 8 ≤ j → j < 10 → r j = t j) : ∀ j, j < 10 → lab (st k + o) j = false → r j = t j := fun j hj q => by
  by_cases h8 : j < 8
  · exact h1 j h8 ((J4o S hl hk ho e j).1 q h8)
  · exact h2 j (by omega) hj
theorem J75 (S : Hdn p h st X) (hl : ∀ q j, lab q j = true ↔ ShSec p st l q j) {k o k' o' : Nat} {s u : KS} (hk : k < p.cl) (ho : o < sizeK p k) (e : l k = some s) (hk' : k' < p.cl) (ho' : o' < sizeK p k') (e' : l k' = some u) {j : Nat} (hu : j < 8 → (s j).s = true → (u j).s = true) : lab (st k + o) j = true → lab (st k' + o') j = true := fun q => by
  have := (J8s S hl hk ho e j).1 q
  exact (J8s S hl hk' ho' e' j).2 ⟨this.1, hu this.1 this.2⟩

theorem Jbt (x y : Kn) : (Kn.less x y).s = x.s := rfl
theorem Jdp {s : KS} {a : Int} {v : Kn} (hv : v.s = (s a.toNat).s) (j : Nat) : (setK s a v j).s = (s j).s := by
  unfold setK
  split
  · rename_i e; rw [e]; exact hv
  · rfl
theorem J7m (i : Ins) (s : KS) (j : Nat) : (J1b i s j).s = (s j).s := Jdp (Jbt _ _) j
theorem Jan (i : Ins) (s : KS) (j : Nat) : (J16 i s j).s = (s j).s := Jdp (Jbt _ _) j
theorem Jh0 (i : Ins) (s : KS) (j : Nat) : (bothK i s j).s = (s j).s := by
  unfold bothK
  rw [Jdp (by rw [Jbt]; exact (J7m i s _).symm) j, J7m]
theorem yes_s (i : Ins) (s : KS) (j : Nat) : (yesK i s j).s = (s j).s := by
  unfold yesK
  split
  · exact Jh0 i s j
  split
  · rfl
  split
  · exact J7m i s j
  · exact Jan i s j
theorem no_s (i : Ins) (s : KS) (j : Nat) : (noK i s j).s = (s j).s := by
  unfold noK
  split
  · rfl
  split
  · exact Jh0 i s j
  split
  · exact Jan i s j
  · exact J7m i s j

structure Here (p : Prg) (l : KV) (k : Nat) (s : KS) : Prop where
  at_ : k < p.cl
  e : l k = some s
  ins : InsOk p.rl p.log p.cl 8 (p.ins k)
  out : outK p k = false
  bound : J1i p (p.ins k) s = false
  secret : J0g p (p.ins k) s = false
  leads : ∀ x ∈ J0d p k s, x.1 < p.cl → ∃ u, l x.1 = some u ∧ leS x.2 u
theorem J2t (ok : p.Ok 200 8) (hk : Known p l) (hc : (J0c p l).1 = 0) {k : Nat} {s : KS} (ha : k < p.cl) (e : l k = some s) : Here p l k s := by
  have hf := Jf4 hc ha e
  have : (outK p k || J1i p (p.ins k) s) = false ∧ J0g p (p.ins k) s = false := by
    unfold J0s at hf
    cases h1 : (outK p k || J1i p (p.ins k) s)
    · cases h2 : J0g p (p.ins k) s
      · exact ⟨rfl, rfl⟩
      · rw [h1, h2] at hf; simp at hf
    · rw [h1] at hf; simp at hf
  have h1 := Bool.or_eq_false_iff.1 this.1
  exact ⟨ha, e, ok.2.2.2 k ha, h1.1, h1.2, this.2, hk.closed.leads k s ha e⟩
theorem Here.next {k : Nat} {s : KS} (H : Here p l k s) (h7 : ¬ (p.ins k).op = 7) (h9 : ¬ (p.ins k).op = 9) : k + 1 < p.cl := by
  have := H.out
  unfold outK at this
  simp [h7, h9] at this
  omega
theorem Here.plain {k : Nat} {s : KS} (H : Here p l k s) (h7 : ¬ (p.ins k).op = 7) (h8 : ¬ (p.ins k).op = 8) (h9 : ¬ (p.ins k).op = 9) : ∃ u, l (k + 1) = some u ∧ leS (nextK p (p.ins k) s) u := by
  have := H.leads (k + 1, nextK p (p.ins k) s) (by unfold J0d; rw [if_neg h7, if_neg h9, if_neg h8]; simp) (H.next h7 h9)
  exact this

theorem J5i (S : Hdn p h st X) {k : Nat} (hk : k < p.cl) {o : Nat} (ho : o + 1 = sizeK p k) : st k + o + 1 = st (k + 1) := by rw [S.next k hk]; omega

theorem J8h {i : Ins} (ha : i.a.toNat < 8) (r : Nat → Int) (j : Nat) (hj : 8 ≤ j) : (regsI r i).1 j = r j := by
  have hs : ∀ v, setR r i.a v j = r j := fun v => by unfold setR; rw [if_neg (by omega)]
  unfold regsI
  split
  · exact hs _
  split
  · exact hs _
  split
  · exact hs _
  split
  · dsimp only; split
    · exact hs _
    · rfl
  split
  · rfl
  · exact hs _

theorem Jhb (S : Hdn p h st X) (ok : p.Ok 200 8) (hk : Known p l) (hc : (J0c p l).1 = 0) (hl : ∀ q j, lab q j = true ↔ ShSec p st l q j) (q : Nat) (h7 : (h.ins q).op = 7) (r : Nat → Int) (hI : ShI p st X l q r) :
    (∀ j, j < 10 → lab q j = true → lab (h.ins q).n.toNat j = true) ∧ ShI p st X l (h.ins q).n.toNat r := by
  obtain ⟨k, o, s, a1, a2, rfl, a4, a5⟩ := hI
  have H := J2t ok hk hc a1 a4
  by_cases m : (p.ins k).op = 3 ∨ (p.ins k).op = 4
  · obtain ⟨m0, m1, m2⟩ := S.mem k a1 m
    rw [J1z m] at a2
    have ho : o = 0 ∨ o = 1 ∨ o = 2 := by omega
    rcases ho with rfl | rfl | rfl
    · rw [Nat.add_zero, m0] at h7; dsimp only at h7; omega
    · rw [m1] at h7; dsimp only at h7; omega
    · rw [m2] at h7; dsimp only at h7; omega
  · rw [J2n m] at a2
    obtain rfl : o = 0 := by omega
    rw [Nat.add_zero] at h7 ⊢
    have g : (p.ins k).op = 7 := by
      by_cases w : (p.ins k).op = 7 ∨ (p.ins k).op = 8
      · rw [S.go k a1 w] at h7; exact h7
      · rw [S.copy k a1 m w] at h7; exact h7
    rw [S.go k a1 (.inl g)]
    dsimp only
    rw [Int.toNat_natCast]
    have hin := H.ins
    unfold InsOk Plc at hin
    simp [g] at hin
    have hn : (p.ins k).n.toNat < p.cl := by omega
    obtain ⟨u, e, hu⟩ := H.leads ((p.ins k).n.toNat, s) (by unfold J0d; rw [if_pos g]; simp) hn
    have z := (J13 p (p.ins k).n.toNat).1
    refine ⟨fun j hj w => ?_, ⟨_, 0, u, hn, z, rfl, e, fun w => by cases w⟩⟩
    have := J75 S hl (o := 0) (o' := 0) a1 (by rw [J2n m]; omega) a4 hn z e (j := j) (fun h8 w => (hu j h8).2 w)
    exact this w

theorem Jhi (S : Hdn p h st X) (ok : p.Ok 200 8) (hk : Known p l) (hc : (J0c p l).1 = 0) (hl : ∀ q j, lab q j = true ↔ ShSec p st l q j) (q : Nat) (h8 : (h.ins q).op = 8) (r : Nat → Int) (hI : ShI p st X l q r) :
    (h.ins q).a.toNat < 10 ∧ (h.ins q).b.toNat < 10 ∧ lab q (h.ins q).a.toNat = false ∧ lab q (h.ins q).b.toNat = false ∧ (∀ j, j < 10 → lab q j = true → lab (h.ins q).n.toNat j = true ∧ lab (q + 1) j = true) ∧ ShI p st X l (h.ins q).n.toNat r ∧ ShI p st X l (q + 1) r := by
  obtain ⟨k, o, s, a1, a2, rfl, a4, a5⟩ := hI
  have H := J2t ok hk hc a1 a4
  by_cases m : (p.ins k).op = 3 ∨ (p.ins k).op = 4
  · obtain ⟨m0, m1, m2⟩ := S.mem k a1 m
    rw [J1z m] at a2
    have ho : o = 0 ∨ o = 1 ∨ o = 2 := by omega
    rcases ho with rfl | rfl | rfl
    · rw [Nat.add_zero, m0] at h8; dsimp only at h8; omega
    · rw [m1] at h8; dsimp only at h8; omega
    · rw [m2] at h8; dsimp only at h8; omega
  · have z0 := J2n m
    rw [z0] at a2
    obtain rfl : o = 0 := by omega
    rw [Nat.add_zero] at h8
    have g : (p.ins k).op = 8 := by
      by_cases w : (p.ins k).op = 7 ∨ (p.ins k).op = 8
      · rw [S.go k a1 w] at h8; exact h8
      · rw [S.copy k a1 m w] at h8; exact h8
    have ei : h.ins (st k + 0) = ⟨(p.ins k).op, (p.ins k).a, (p.ins k).b, (p.ins k).c, (st (p.ins k).n.toNat : Int)⟩ := S.go k a1 (.inr g)
    rw [ei]
    dsimp only
    rw [Int.toNat_natCast]
    have hin := H.ins
    have hr := J20 hin
    have ha := hr.1 (by omega)
    have hb := hr.2.1 (by omega)
    unfold InsOk Plc at hin
    simp [g] at hin
    have hn : (p.ins k).n.toNat < p.cl := by omega
    have hk1 := H.next (by omega) (by omega)
    have hs := H.secret
    unfold J0g at hs
    simp [g] at hs
    obtain ⟨u, e, hu⟩ := H.leads ((p.ins k).n.toNat, yesK (p.ins k) s) (by unfold J0d; simp [g]) hn
    obtain ⟨v, f, hv⟩ := H.leads (k + 1, noK (p.ins k) s) (by unfold J0d; simp [g]) hk1
    have zu := (J13 p (p.ins k).n.toNat).1
    have zv := (J13 p (k + 1)).1
    have en := J5i S a1 (o := 0) (by omega)
    refine ⟨by omega, by omega, (J4o S hl a1 (by omega) a4 _).2 (fun _ => hs.1), (J4o S hl a1 (by omega) a4 _).2 (fun _ => hs.2), fun j hj w => ⟨?_, ?_⟩, ⟨_, 0, u, hn, zu, rfl, e, fun w => by cases w⟩, ⟨k + 1, 0, v, hk1, zv, by rw [en]; rfl, f, fun w => by cases w⟩⟩
    · exact J75 S hl (o' := 0) a1 (by omega) a4 hn zu e (fun h8 q => (hu j h8).2 (by rw [yes_s]; exact q)) w
    · rw [en]
      exact J75 S hl (o' := 0) a1 (by omega) a4 hk1 zv f (fun h8 q => (hv j h8).2 (by rw [no_s]; exact q)) w

theorem J3w (S : Hdn p h st X) {q : Nat} {r : Nat → Int} (hI : ShI p st X l q r) : ∃ k o s, k < p.cl ∧ o < sizeK p k ∧ q = st k + o ∧ l k = some s ∧
    ((((p.ins k).op = 3 ∨ (p.ins k).op = 4) ∧ ((o = 0 ∧ h.ins q = ⟨10, X, (p.ins k).b, 0, (p.ins k).n⟩) ∨ (o = 1 ∧ h.ins q = ⟨11, X, 0, 0, J0e (p.log (p.ins k).c.toNat)⟩) ∨ (o = 2 ∧ h.ins q = ⟨(p.ins k).op, (p.ins k).a, X, (p.ins k).c, 0⟩ ∧ 0 ≤ r X.toNat ∧ r X.toNat < J0e (p.log (p.ins k).c.toNat)))) ∨
     (o = 0 ∧ sizeK p k = 1 ∧ ((p.ins k).op = 7 ∨ (p.ins k).op = 8) ∧ (h.ins q).op = (p.ins k).op) ∨
     (o = 0 ∧ sizeK p k = 1 ∧ ¬ ((p.ins k).op = 3 ∨ (p.ins k).op = 4) ∧ ¬ ((p.ins k).op = 7 ∨ (p.ins k).op = 8) ∧ h.ins q = p.ins k)) := by
  obtain ⟨k, o, s, a1, a2, rfl, a4, a5⟩ := hI
  refine ⟨k, o, s, a1, a2, rfl, a4, ?_⟩
  by_cases m : (p.ins k).op = 3 ∨ (p.ins k).op = 4
  · obtain ⟨m0, m1, m2⟩ := S.mem k a1 m
    rw [J1z m] at a2
    have ho : o = 0 ∨ o = 1 ∨ o = 2 := by omega
    rcases ho with rfl | rfl | rfl
    · exact .inl ⟨m, .inl ⟨rfl, m0⟩⟩
    · exact .inl ⟨m, .inr (.inl ⟨rfl, m1⟩)⟩
    · exact .inl ⟨m, .inr (.inr ⟨rfl, m2, a5 rfl⟩)⟩
  · have z := J2n m
    rw [z] at a2
    obtain rfl : o = 0 := by omega
    by_cases w : (p.ins k).op = 7 ∨ (p.ins k).op = 8
    · exact .inr (.inl ⟨rfl, z, w, by rw [Nat.add_zero, S.go k a1 w]⟩)
    · exact .inr (.inr ⟨rfl, z, m, w, S.copy k a1 m w⟩)

theorem hd_on {k : Nat} {u : KS} (hk : k < p.cl) (e : l k = some u) (r : Nat → Int) : ShI p st X l (st k) r := ⟨k, 0, u, hk, (J13 p k).1, rfl, e, fun w => by cases w⟩

theorem Jih (S : Hdn p h st X) (ok : p.Ok 200 8) (hk : Known p l) (hc : (J0c p l).1 = 0) (hl : ∀ q j, lab q j = true ↔ ShSec p st l q j) (q : Nat) (h9 : (h.ins q).op = 9) (r : Nat → Int) (hI : ShI p st X l q r) :
    (h.ins q).a.toNat < 10 ∧ lab q (h.ins q).a.toNat = false := by
  obtain ⟨k, o, s, a1, a2, rfl, a4, ⟨m, ⟨_, e⟩ | ⟨_, e⟩ | ⟨_, e, _⟩⟩ | ⟨rfl, _, m, e⟩ | ⟨rfl, z, m, w, e⟩⟩ := J3w S hI
  · rw [e] at h9; dsimp only at h9; omega
  · rw [e] at h9; dsimp only at h9; omega
  · rw [e] at h9; dsimp only at h9; omega
  · omega
  · rw [e] at h9
    have H := J2t ok hk hc a1 a4
    have hs := H.secret
    unfold J0g at hs
    simp [h9] at hs
    have ha := (J20 H.ins).1 (by omega)
    rw [e]
    exact ⟨by omega, (J4o S hl a1 (by omega) a4 _).2 (fun _ => hs)⟩

theorem Jei (S : Hdn p h st X) (ok : p.Ok 200 8) (hk : Known p l) (hc : (J0c p l).1 = 0) (hl : ∀ q j, lab q j = true ↔ ShSec p st l q j) (q : Nat) (h12 : (h.ins q).op = 12) (r : Nat → Int) (hI : ShI p st X l q r) :
    (∀ j, j < 10 → lab q j = true → lab (q + 1) j = true) ∧ ShI p st X l (q + 1) r := by
  obtain ⟨k, o, s, a1, a2, rfl, a4, ⟨m, ⟨_, e⟩ | ⟨_, e⟩ | ⟨_, e, _⟩⟩ | ⟨rfl, _, m, e⟩ | ⟨rfl, z, m, w, e⟩⟩ := J3w S hI
  · rw [e] at h12; dsimp only at h12; omega
  · rw [e] at h12; dsimp only at h12; omega
  · rw [e] at h12; dsimp only at h12; omega
  · omega
  · rw [e] at h12
    have H := J2t ok hk hc a1 a4
    obtain ⟨u, eu, hu⟩ := H.plain (by omega) (by omega) (by omega)
    have hk1 := H.next (by omega) (by omega)
    have en : st k + 0 + 1 = st (k + 1) := J5i S a1 (o := 0) (by omega)
    have e3 : nextK p (p.ins k) s = s := by unfold nextK; simp [h12]
    rw [e3] at hu
    rw [en]
    exact ⟨fun j hj => J75 S hl (o' := 0) a1 a2 a4 hk1 (J13 p _).1 eu (fun h8 q => (hu j h8).2 q), hd_on hk1 eu r⟩

theorem idx_x (r : Nat → Int) {o a x c : Int} (ho : o = 3 ∨ o = 4) (h0 : 0 ≤ r x.toNat) (h1 : r x.toNat < 65) : idxI r ⟨o, a, x, c, 0⟩ = r x.toNat := by
  unfold idxI
  dsimp only
  rw [if_neg (by omega)]
  unfold wrap64
  omega
theorem Jd9 {i : Ins} (hi : InsOk p.rl p.log p.cl 8 i) (m : ¬ (i.op = 3 ∨ i.op = 4)) (hp : 0 ≤ putI i) : i.op = 5 ∨ i.op = 6 := by
  unfold putI at hp
  by_cases q : i.op = 5 ∨ i.op = 6
  · exact q
  · rw [if_neg (by omega), if_neg (by omega)] at hp; omega

theorem Jie (S : Hdn p h st X) (ok : p.Ok 200 8) (hk : Known p l) (hc : (J0c p l).1 = 0) (hl : ∀ q j, lab q j = true ↔ ShSec p st l q j) (q : Nat) (hp : 0 ≤ putI (h.ins q)) (r : Nat → Int) (hI : ShI p st X l q r) :
    (h.ins q).c.toNat < h.rl ∧ (h.ins q).a.toNat < 10 ∧ (0 ≤ idxI r (h.ins q) ∧ idxI r (h.ins q) < J0e (h.log (h.ins q).c.toNat)) ∧ (∀ t, (∀ j, j < 10 → lab q j = false → r j = t j) → idxI r (h.ins q) = idxI t (h.ins q)) := by
  obtain ⟨k, o, s, a1, a2, rfl, a4, ⟨m, ⟨_, e⟩ | ⟨_, e⟩ | ⟨rfl, e, x1, x2⟩⟩ | ⟨rfl, _, m, e⟩ | ⟨rfl, z, m, w, e⟩⟩ := J3w S hI
  · rw [e] at hp; exact absurd hp (by unfold putI; simp)
  · rw [e] at hp; exact absurd hp (by unfold putI; simp)
  · have H := J2t ok hk hc a1 a4
    have hi := H.ins
    have ha := (J20 hi).1 (by omega)
    have hr : Rgn p.rl (p.ins k).c := by unfold InsOk at hi; rcases m with m | m <;> simp [m] at hi <;> exact hi.2.2
    unfold Rgn at hr
    have hcr : (p.ins k).c.toNat < p.rl := by omega
    have hw := ok.1.2 _ hcr
    have h64 := J1s (k := (p.log (p.ins k).c.toNat).toNat) (by omega)
    have x3 : r X.toNat < 65 := by unfold J0e at x2; omega
    rw [e]
    dsimp only
    rw [idx_x r m x1 x3, ← (S.reg _ hcr).1, ← S.rl]
    refine ⟨hcr, by omega, ⟨x1, x2⟩, fun t ht => ?_⟩
    have := (J5a S hl a1 a2 a4 ht).2 X.toNat S.xn.1 S.xn.2
    rw [idx_x t m (by omega) (by omega), this]
  · exact absurd hp (by unfold putI; rw [if_neg (by omega), if_neg (by omega)]; omega)
  · rw [e] at hp
    have H := J2t ok hk hc a1 a4
    have hi := H.ins
    have op := Jd9 hi m hp
    have ha := (J20 hi).1 (by omega)
    have hr : Rgn p.rl (p.ins k).c ∧ Wrd p.log (p.ins k).c (p.ins k).n := by unfold InsOk at hi; rcases op with m | m <;> simp [m] at hi <;> exact hi.2.2
    have h1 := hr.1
    have h2 := hr.2
    unfold Rgn at h1
    unfold Wrd at h2
    have hcr : (p.ins k).c.toNat < p.rl := by omega
    have ei : ∀ t, idxI t (p.ins k) = (p.ins k).n := fun t => by unfold idxI; rw [if_pos op]
    rw [e, ei, ← (S.reg _ hcr).1, ← S.rl]
    exact ⟨hcr, by omega, h2, fun t _ => (ei t).symm⟩

theorem J9t (S : Hdn p h st X) (ok : p.Ok 200 8) (hk : Known p l) (hc : (J0c p l).1 = 0) (hl : ∀ q j, lab q j = true ↔ ShSec p st l q j) (q : Nat) (hp : putI (h.ins q) = 0) (r : Nat → Int) (hI : ShI p st X l q r) :
    (∀ j, j < 10 → j ≠ (h.ins q).a.toNat → lab q j = true → lab (q + 1) j = true) ∧ (h.sec (h.ins q).c.toNat = true → lab (q + 1) (h.ins q).a.toNat = true) ∧ ∀ v, ShI p st X l (q + 1) (setR r (h.ins q).a v) := by
  have key : ∀ k o s, k < p.cl → o < sizeK p k → o + 1 = sizeK p k → l k = some s → (p.ins k).op = 3 ∨ (p.ins k).op = 5 →
      (∀ j, j < 10 → j ≠ (p.ins k).a.toNat → lab (st k + o) j = true → lab (st k + o + 1) j = true) ∧ (h.sec (p.ins k).c.toNat = true → lab (st k + o + 1) (p.ins k).a.toNat = true) ∧ ∀ v, ShI p st X l (st k + o + 1) (setR r (p.ins k).a v) := fun k o s a1 a2 a3 a4 op => by
    have H := J2t ok hk hc a1 a4
    obtain ⟨u, eu, hu⟩ := H.plain (by omega) (by omega) (by omega)
    have hk1 := H.next (by omega) (by omega)
    have en := J5i S a1 a3
    have hi := H.ins
    have hr : Rgn p.rl (p.ins k).c := by unfold InsOk at hi; rcases op with m | m <;> simp [m] at hi <;> simp [hi]
    unfold Rgn at hr
    have hcr : (p.ins k).c.toNat < p.rl := by omega
    have ha := (J20 hi).1 (by omega)
    have e3 : nextK p (p.ins k) s = setK s (p.ins k).a ⟨17, p.sec (p.ins k).c.toNat⟩ := by unfold nextK; rw [if_neg (by omega), if_neg (by omega), if_neg (by omega), if_pos op]
    rw [e3] at hu
    rw [en]
    refine ⟨fun j hj ne => J75 S hl (o' := 0) a1 a2 a4 hk1 (J13 p _).1 eu (fun h8 q => (hu j h8).2 (by unfold setK; rw [if_neg ne]; exact q)), fun hs => ?_, fun v => hd_on hk1 eu _⟩
    refine (J8s S hl (o := 0) hk1 (J13 p _).1 eu _).2 ⟨ha, (hu _ ha).2 ?_⟩
    unfold setK
    rw [if_pos rfl, (S.reg _ hcr).2]
    exact hs
  obtain ⟨k, o, s, a1, a2, rfl, a4, ⟨m, ⟨_, e⟩ | ⟨_, e⟩ | ⟨rfl, e, x1, x2⟩⟩ | ⟨rfl, _, m, e⟩ | ⟨rfl, z, m, w, e⟩⟩ := J3w S hI
  · rw [e] at hp; exact absurd hp (by unfold putI; simp)
  · rw [e] at hp; exact absurd hp (by unfold putI; simp)
  · rw [e] at hp ⊢
    dsimp only
    refine key k 2 s a1 a2 (by rw [J1z m]) a4 ?_
    unfold putI at hp
    dsimp only at hp
    rcases m with m | m
    · exact .inl m
    · rw [if_neg (by omega), if_pos (by omega)] at hp; omega
  · exact absurd hp (by unfold putI; rw [if_neg (by omega), if_neg (by omega)]; omega)
  · rw [e] at hp ⊢
    refine key k 0 s a1 a2 (by omega) a4 ?_
    unfold putI at hp
    by_cases c : (p.ins k).op = 3 ∨ (p.ins k).op = 5
    · exact c
    · rw [if_neg c] at hp; split at hp <;> omega

theorem Jj2 (S : Hdn p h st X) (ok : p.Ok 200 8) (hk : Known p l) (hc : (J0c p l).1 = 0) (hl : ∀ q j, lab q j = true ↔ ShSec p st l q j) (q : Nat) (hp : putI (h.ins q) = 1) (r : Nat → Int) (hI : ShI p st X l q r) :
    (∀ j, j < 10 → lab q j = true → lab (q + 1) j = true) ∧ (lab q (h.ins q).a.toNat = true → h.sec (h.ins q).c.toNat = true) ∧ ShI p st X l (q + 1) r := by
  have key : ∀ k o s, k < p.cl → o < sizeK p k → o + 1 = sizeK p k → l k = some s → (p.ins k).op = 4 ∨ (p.ins k).op = 6 →
      (∀ j, j < 10 → lab (st k + o) j = true → lab (st k + o + 1) j = true) ∧ (lab (st k + o) (p.ins k).a.toNat = true → h.sec (p.ins k).c.toNat = true) ∧ ShI p st X l (st k + o + 1) r := fun k o s a1 a2 a3 a4 op => by
    have H := J2t ok hk hc a1 a4
    obtain ⟨u, eu, hu⟩ := H.plain (by omega) (by omega) (by omega)
    have hk1 := H.next (by omega) (by omega)
    have en := J5i S a1 a3
    have hi := H.ins
    have hr : Rgn p.rl (p.ins k).c := by unfold InsOk at hi; rcases op with m | m <;> simp [m] at hi <;> simp [hi]
    unfold Rgn at hr
    have hcr : (p.ins k).c.toNat < p.rl := by omega
    have e3 : nextK p (p.ins k) s = s := by unfold nextK; rw [if_neg (by omega), if_neg (by omega), if_neg (by omega), if_neg (by omega), if_neg (by omega), if_pos (by omega)]
    rw [e3] at hu
    rw [en]
    refine ⟨fun j hj => J75 S hl (o' := 0) a1 a2 a4 hk1 (J13 p _).1 eu (fun h8 q => (hu j h8).2 q), fun hs => ?_, hd_on hk1 eu _⟩
    have hs2 := ((J8s S hl a1 a2 a4 _).1 hs).2
    have hsec := H.secret
    unfold J0g at hsec
    rw [← (S.reg _ hcr).2]
    rcases op with m | m <;> simp [m, hs2] at hsec
    · exact hsec.2
    · exact hsec
  obtain ⟨k, o, s, a1, a2, rfl, a4, ⟨m, ⟨_, e⟩ | ⟨_, e⟩ | ⟨rfl, e, x1, x2⟩⟩ | ⟨rfl, _, m, e⟩ | ⟨rfl, z, m, w, e⟩⟩ := J3w S hI
  · rw [e] at hp; exact absurd hp (by unfold putI; simp)
  · rw [e] at hp; exact absurd hp (by unfold putI; simp)
  · rw [e] at hp ⊢
    dsimp only
    refine key k 2 s a1 a2 (by rw [J1z m]) a4 ?_
    unfold putI at hp
    dsimp only at hp
    rcases m with m | m
    · rw [if_pos (by omega)] at hp; omega
    · exact .inl m
  · exact absurd hp (by unfold putI; rw [if_neg (by omega), if_neg (by omega)]; omega)
  · rw [e] at hp ⊢
    refine key k 0 s a1 a2 (by omega) a4 ?_
    unfold putI at hp
    by_cases c : (p.ins k).op = 3 ∨ (p.ins k).op = 5
    · rw [if_pos c] at hp; omega
    · rw [if_neg c] at hp; split at hp <;> omega

theorem hd_op (S : Hdn p h st X) (ok : p.Ok 200 8) (hk : Known p l) (hc : (J0c p l).1 = 0) (hl : ∀ q j, lab q j = true ↔ ShSec p st l q j) (q : Nat) (h7 : ¬ (h.ins q).op = 7) (h8 : ¬ (h.ins q).op = 8) (h9 : ¬ (h.ins q).op = 9) (h12 : ¬ (h.ins q).op = 12) (hp : ¬ 0 ≤ putI (h.ins q)) (r : Nat → Int) (hI : ShI p st X l q r) :
    (∀ t, (∀ j, j < 10 → lab q j = false → r j = t j) → (regsI r (h.ins q)).2 = (regsI t (h.ins q)).2 ∧ ∀ j, j < 10 → lab (q + 1) j = false → (regsI r (h.ins q)).1 j = (regsI t (h.ins q)).1 j) ∧ ShI p st X l (q + 1) (regsI r (h.ins q)).1 := by
  have xn := S.xn
  obtain ⟨k, o, s, a1, a2, rfl, a4, ⟨m, ⟨rfl, e⟩ | ⟨rfl, e⟩ | ⟨rfl, e, x1, x2⟩⟩ | ⟨rfl, _, m, e⟩ | ⟨rfl, z, m, w, e⟩⟩ := J3w S hI
  · have H := J2t ok hk hc a1 a4
    have hb := (J20 H.ins).2.1 (by omega)
    have hs : (s (p.ins k).b.toNat).s = false := by
      have hs := H.secret
      unfold J0g at hs
      rcases m with m | m <;> simp [m] at hs
      · exact hs
      · exact hs.1
    have e1 : ∀ t, regsI t ⟨10, X, (p.ins k).b, 0, (p.ins k).n⟩ = (setR t X (wrap64 (t (p.ins k).b.toNat + (p.ins k).n)), []) := fun t => by unfold regsI; simp
    have z := J1z m
    rw [e, e1]
    refine ⟨fun t ht => ?_, ⟨k, 1, s, a1, by omega, rfl, a4, fun w => by cases w⟩⟩
    rw [e1]
    refine ⟨rfl, ?_⟩
    have A := J5a S hl a1 a2 a4 ht
    refine J6b (o := 1) S hl a1 (by omega) a4 (fun j hj q => ?_) (fun j j8 j10 => ?_)
    · dsimp only
      unfold setR
      rw [if_neg (by omega), if_neg (by omega)]
      exact A.1 j hj q
    · dsimp only
      unfold setR
      by_cases c : j = X.toNat
      · rw [if_pos c, if_pos c, A.1 _ hb hs]
      · rw [if_neg c, if_neg c]; exact A.2 j j8 j10
  · have e1 : ∀ t, regsI t ⟨11, X, 0, 0, J0e (p.log (p.ins k).c.toNat)⟩ = (if t X.toNat < 0 ∨ J0e (p.log (p.ins k).c.toNat) ≤ t X.toNat then setR t X 0 else t, []) := fun t => by unfold regsI; simp
    have z := J1z m
    have wp := J6t (p.log (p.ins k).c.toNat)
    rw [e, e1]
    refine ⟨fun t ht => ?_, ⟨k, 2, s, a1, by omega, rfl, a4, fun _ => ?_⟩⟩
    · rw [e1]
      refine ⟨rfl, ?_⟩
      have A := J5a S hl a1 a2 a4 ht
      have ex := A.2 X.toNat xn.1 xn.2
      refine J6b (o := 2) S hl a1 (by omega) a4 (fun j hj q => ?_) (fun j j8 j10 => ?_)
      · dsimp only
        rw [← ex]
        split
        · unfold setR
          rw [if_neg (by omega), if_neg (by omega)]
          exact A.1 j hj q
        · exact A.1 j hj q
      · dsimp only
        rw [← ex]
        split
        · unfold setR
          by_cases c : j = X.toNat
          · rw [if_pos c, if_pos c]
          · rw [if_neg c, if_neg c]; exact A.2 j j8 j10
        · exact A.2 j j8 j10
    · dsimp only
      split
      · unfold setR; rw [if_pos rfl]; omega
      · omega
  · rw [e] at hp
    exact absurd (show 0 ≤ putI (⟨(p.ins k).op, (p.ins k).a, X, (p.ins k).c, 0⟩ : Ins) by unfold putI; dsimp only; rcases m with m | m <;> simp [m]) hp
  · omega
  · rw [e] at h7 h8 h9 h12 hp
    have H := J2t ok hk hc a1 a4
    obtain ⟨u, eu, hu⟩ := H.plain h7 h8 h9
    have hk1 := H.next h7 h9
    have en : st k + 0 + 1 = st (k + 1) := J5i S a1 (o := 0) (by omega)
    have n5 : ¬ (p.ins k).op = 5 := fun q => hp (by unfold putI; simp [q])
    have n6 : ¬ (p.ins k).op = 6 := fun q => hp (by unfold putI; simp [q])
    have ha := (J20 H.ins).1 (by omega)
    rw [en, e]
    refine ⟨fun t ht => ?_, hd_on hk1 eu _⟩
    have A := J5a S hl a1 a2 a4 ht
    have R := Jhd H.ins (fun c => m (.inl c)) (fun c => m (.inr c)) n5 n6 h7 h8 h9 H.secret A.1
    refine ⟨R.2, J6b (o := 0) S hl hk1 (J13 p _).1 eu (R.1.mono hu) (fun j j8 j10 => ?_)⟩
    rw [J8h ha r j j8, J8h ha t j j8]
    exact A.2 j j8 j10

theorem Jef (S : Hdn p h st X) (ok : p.Ok 200 8) (hk : Known p l) (hc : (J0c p l).1 = 0) : Still h := by
  refine ⟨fun _ => True, fun q j => @decide (ShSec p st l q j) (Classical.propDecidable _), ShI p st X l, fun _ _ => trivial, ?_, ?_⟩
  · have hl : ∀ q j, (fun q j => @decide (ShSec p st l q j) (Classical.propDecidable _)) q j = true ↔ ShSec p st l q j := fun q j => by simp
    refine ⟨?_, trivial, fun k _ c r I => Jhb S ok hk hc hl k c r I, fun k _ c r I => ?_, fun k _ c r I => Jih S ok hk hc hl k c r I, fun k _ c r I => Jei S ok hk hc hl k c r I, fun k _ c r I => Jie S ok hk hc hl k c r I, fun k _ c r I => ⟨(J9t S ok hk hc hl k c r I).1, (J9t S ok hk hc hl k c r I).2.1, fun v _ => (J9t S ok hk hc hl k c r I).2.2 v⟩, fun k _ c r I => Jj2 S ok hk hc hl k c r I, fun _ _ _ _ _ => trivial, fun k _ h7 h8 h9 h12 hp r I => hd_op S ok hk hc hl k h7 h8 h9 h12 hp r I⟩
    · exact ⟨by rw [← S.rl]; exact ok.1.1, fun i hi => by rw [← (S.reg i (by rw [S.rl]; exact hi)).1]; exact ok.1.2 i (by rw [S.rl]; exact hi)⟩
    · obtain ⟨b1, b2, b3, b4, b5, b6, b7⟩ := Jhi S ok hk hc hl k c r I
      refine ⟨b1, b2, b3, b4, b5, ?_, .inl ?_⟩
      · unfold Jd1; split <;> assumption
      · unfold Jah; split <;> assumption
  · obtain ⟨s, e, _⟩ := hk.closed.first
    exact S.s0 ▸ hd_on ok.2.1 e _

end
def maskL (p : Prg) (i : Ins) : List Ins :=
 if i.op = 3 ∨ i.op = 4 then [⟨10, 8, i.b, 0, i.n⟩, ⟨11, 8, 0, 0, J0e (p.log i.c.toNat)⟩, ⟨i.op, i.a, 8, i.c, 0⟩] else [i]
def codeL (p : Prg) : Nat → List Ins
 | 0 => []
 | n + 1 => codeL p n ++ maskL p (p.ins n)
def J0n (p : Prg) (n : Nat) : Nat := (codeL p n).length
def leadL (p : Prg) (i : Ins) : Ins := if i.op = 7 ∨ i.op = 8 then ⟨i.op, i.a, i.b, i.c, (J0n p i.n.toNat : Int)⟩ else i
def hardL (p : Prg) (q : Nat) : Ins := leadL p ((codeL p p.cl).getD q ⟨0, 0, 0, 0, 0⟩)
def hardP (p : Prg) : Prg := ⟨p.rl, p.log, p.sec, J0n p p.cl, hardL p⟩

theorem J2b (p : Prg) (n : Nat) : (maskL p (p.ins n)).length = sizeK p n := by
 unfold maskL sizeK
 split <;> rfl
theorem J3c (p : Prg) (n : Nat) : J0n p (n + 1) = J0n p n + sizeK p n := by
 unfold J0n; rw [codeL, List.length_append, J2b]
theorem J5z (p : Prg) : ∀ n, J0n p n ≤ 3 * n
 | 0 => Nat.le_refl _
 | n + 1 => by
  have := J5z p n
  have := (J13 p n).2
  rw [J3c]; omega
theorem Jaf (p : Prg) : ∀ (n k o : Nat), k < n → o < sizeK p k → (codeL p n)[J0n p k + o]? = (maskL p (p.ins k))[o]?
 | 0, k, o, h, _ => absurd h (Nat.not_lt_zero _)
 | n + 1, k, o, h, ho => by
  rw [codeL]
  by_cases e : k = n
  ·subst e
   rw [List.getElem?_append_right (by unfold J0n; omega)]
   congr 1
   unfold J0n; omega
  ·have h2 := Jaf p n k o (by omega) ho
   have hlt : J0n p k + o < (codeL p n).length := by
    have e1 : (maskL p (p.ins k))[o]? ≠ none := by
     rw [Ne, List.getElem?_eq_none_iff, J2b]; omega
    rw [← h2] at e1
    rw [Ne, List.getElem?_eq_none_iff] at e1
    omega
   rw [List.getElem?_append_left hlt]
   exact h2
theorem J4i (p : Prg) (k o : Nat) (i : Ins) (hk : k < p.cl) (ho : o < sizeK p k) (e : (maskL p (p.ins k))[o]? = some i) : hardL p (J0n p k + o) = leadL p i := by
 unfold hardL
 rw [List.getD_eq_getElem?_getD, Jaf p p.cl k o hk ho, e]
 rfl
theorem J2x (p : Prg) {i : Ins} (h : ¬ (i.op = 7 ∨ i.op = 8)) : leadL p i = i := by unfold leadL; rw [if_neg h]

theorem J8q (p : Prg) : Hdn p (hardP p) (J0n p) 8 := by
 refine ⟨.inl rfl, rfl, fun i hi => ⟨rfl, rfl⟩, rfl, fun k hk => J3c p k, rfl, fun k hk hm => ?_, fun k hk hg => ?_, fun k hk hm hg => ?_⟩
 ·have hs := J1z hm
  have e : maskL p (p.ins k) = [⟨10, 8, (p.ins k).b, 0, (p.ins k).n⟩, ⟨11, 8, 0, 0, J0e (p.log (p.ins k).c.toNat)⟩, ⟨(p.ins k).op, (p.ins k).a, 8, (p.ins k).c, 0⟩] := by unfold maskL; rw [if_pos hm]
  refine ⟨?_, ?_, ?_⟩
  ·have := J4i p k 0 _ hk (by omega) (by rw [e]; rfl)
   rw [J2x p (by dsimp only; omega)] at this
   exact this
  ·have := J4i p k 1 _ hk (by omega) (by rw [e]; rfl)
   rw [J2x p (by dsimp only; omega)] at this
   exact this
  ·have := J4i p k 2 _ hk (by omega) (by rw [e]; rfl)
   rw [J2x p (by dsimp only; omega)] at this
   exact this
 ·have hs : sizeK p k = 1 := J2n (by omega)
  have e : maskL p (p.ins k) = [p.ins k] := by unfold maskL; rw [if_neg (by omega)]
  have := J4i p k 0 _ hk (by omega) (by rw [e]; rfl)
  unfold leadL at this
  rw [if_pos hg] at this
  exact this
 ·have hs : sizeK p k = 1 := J2n hm
  have e : maskL p (p.ins k) = [p.ins k] := by unfold maskL; rw [if_neg hm]
  have := J4i p k 0 _ hk (by omega) (by rw [e]; rfl)
  rw [J2x p hg] at this
  exact this

def flatI : List Ins → List Value
 | [] => []
 | i :: l => .int .i64 i.op :: .int .i64 i.a :: .int .i64 i.b :: .int .i64 i.c :: .int .i64 i.n :: flatI l
theorem J4w : ∀ l : List Ins, (flatI l).length = l.length * 5
 | [] => rfl
 | s :: l => by simp [flatI, J4w l]; omega
theorem J51 : ∀ l l' : List Ins, flatI (l ++ l') = flatI l ++ flatI l'
 | [], _ => rfl
 | s :: l, l' => by simp [flatI, J51 l l']
theorem Jar : ∀ (l : List Ins) (i : Nat) (s : Ins), l[i]? = some s → (flatI l)[i * 5]? = some (.int .i64 s.op) ∧ (flatI l)[i * 5 + 1]? = some (.int .i64 s.a) ∧ (flatI l)[i * 5 + 2]? = some (.int .i64 s.b) ∧ (flatI l)[i * 5 + 3]? = some (.int .i64 s.c) ∧ (flatI l)[i * 5 + 4]? = some (.int .i64 s.n)
 | [], i, s, h => by simp at h
 | x :: l, 0, s, h => by simp at h; subst h; simp [flatI]
 | x :: l, i + 1, s, h => by
  have := Jar l i s (by simpa using h)
  rw [show (i + 1) * 5 = i * 5 + 1 + 1 + 1 + 1 + 1 by omega, flatI]
  simpa using this
theorem J8n : ∀ (l : List Ins), ∀ u ∈ flatI l, u.oneCell' = true
 | [], u, h => by simp [flatI] at h
 | i :: l, u, h => by
  simp only [flatI, List.mem_cons] at h
  rcases h with rfl | rfl | rfl | rfl | rfl | h
  ·rfl
  ·rfl
  ·rfl
  ·rfl
  ·rfl
  ·exact J8n l u h
end
section
open Go.RowKit
set_option linter.unusedSimpArgs false
set_option linter.unusedVariables false
set_option maxRecDepth 8000
def NewsAt (w : World) (g : Nat) (L : List Ins) : Prop := ∀ j u, (flatI L)[j]? = some u → w.cell? ((⟨g, 0, none⟩ : Addr).add j) = some u
theorem NewsAt.of {w : World} {g : Nat} {L : List Ins} {cs : Array Value} {T : TypeId} (h : Blk w g cs T) (e : cs.toList = flatI L) : NewsAt w g L := fun j u hu => by
 rw [← e] at hu
 exact World.news_of_block h j u hu

theorem Jer (l : Int) (h0 : 0 ≤ l) (h1 : l ≤ 6) (w : World) : (Op.shift .shl .i64 1 .i64 l).run Try.prog w = .ok (.int .i64 (J0e l)) w := by
 have : l = 0 ∨ l = 1 ∨ l = 2 ∨ l = 3 ∨ l = 4 ∨ l = 5 ∨ l = 6 := by omega
 rcases this with rfl | rfl | rfl | rfl | rfl | rfl | rfl
 all_goals (clear h0 h1; go_simp; rfl)

set_option maxHeartbeats 1000000 in
theorem J8r (p : Prg) (i : Ins) (ra : Option Addr) (rc rb ro : Nat) (w : World) (hra : 0 < p.rl → ra = some ⟨rb, ro, none⟩) (hr : RegsAt w rb ro p.rl p.log p.sec) (hok : J0f p.rl p.log) (hc : i.op = 3 ∨ i.op = 4 → Rgn p.rl i.c) :
  Calls Try.prog 68 #[.agg #[.int .i64 i.op, .int .i64 i.a, .int .i64 i.b, .int .i64 i.c, .int .i64 i.n], .slice ra p.rl rc] w fun e w' => ∃ g, e = .returned (.slice (some ⟨g, 0, none⟩) (maskL p i).length (maskL p i).length) ∧ NewsAt w' g (maskL p i) ∧ More w w' := by
 obtain ⟨op, a, b, c, n⟩ := i
 dsimp only at hc ⊢
 by_cases hm : op = 3 ∨ op = 4
 ·have hL : maskL p ⟨op, a, b, c, n⟩ = [⟨10, 8, b, 0, n⟩, ⟨11, 8, 0, 0, J0e (p.log c.toNat)⟩, ⟨op, a, 8, c, 0⟩] := by unfold maskL; rw [if_pos hm]
  rw [hL]
  have hc' := hc hm
  obtain ⟨c0, c1⟩ := hc'
  obtain ⟨cn, rfl⟩ := Int.eq_ofNat_of_zero_le c0
  have hcn : cn < p.rl := by omega
  have hci : (cn : Int) < (p.rl : Int) := by omega
  obtain rfl := hra (by omega)
  have hrc := (hr cn hcn).1
  have hlg := hok.2 cn hcn
  simp only [Int.toNat_natCast] at hL ⊢
  obtain ⟨lg, Hlg⟩ : ∃ x, Hid (p.log cn = x) := ⟨_, rfl⟩
  obtain ⟨rl, Hrl⟩ : ∃ x, Hid (p.rl = x) := ⟨_, rfl⟩
  rw [Hlg.out] at hrc hlg ⊢
  rw [Hrl.out] at hci ⊢
  clear hL hc c0 c1 hra hok hr Hlg Hrl hcn
  have hsh := Jer lg hlg.1 hlg.2
  obtain ⟨wd, Hwd⟩ : ∃ x, Hid (J0e lg = x) := ⟨_, rfl⟩
  rw [Hwd.out] at hsh ⊢
  clear hlg Hwd
  have Hm : Hid (op = 3 ∨ op = 4) := hm
  clear hm
  obtain ⟨W, HW⟩ : ∃ W : World, Hid (W = w.alloc (.cells #[.int .i64 op, .int .i64 a, .int .i64 b, .int .i64 (cn : Int), .int .i64 n] 67)) := ⟨_, rfl⟩
  have HwW : Hid (More w W) := HW.out ▸ ((More.refl _).alloc _ _)
  have HbW : Hid (Blk W w.heap.size #[.int .i64 op, .int .i64 a, .int .i64 b, .int .i64 (cn : Int), .int .i64 n] 67) := HW.out ▸ Blk.last _ _ _
  obtain ⟨S, HS⟩ : ∃ S : World → Prop, Hid (∀ w', S w' ↔ More W w') := ⟨fun w' => More W w', fun _ => Iff.rfl⟩
  have HS0 : S W.drew := (HS.out _).2 (More.refl _).drew
  have k0 : ∀ i : { w' // S w' }, i.val.cell? ⟨w.heap.size, 0, none⟩ = some (.int .i64 op) := fun i => (HbW.out.more ((HS.out _).1 i.property)).cell rfl
  have k1 : ∀ i : { w' // S w' }, i.val.cell? ⟨w.heap.size, 1, none⟩ = some (.int .i64 a) := fun i => (HbW.out.more ((HS.out _).1 i.property)).cell rfl
  have k2 : ∀ i : { w' // S w' }, i.val.cell? ⟨w.heap.size, 2, none⟩ = some (.int .i64 b) := fun i => (HbW.out.more ((HS.out _).1 i.property)).cell rfl
  have k3 : ∀ i : { w' // S w' }, i.val.cell? ⟨w.heap.size, 3, none⟩ = some (.int .i64 (cn : Int)) := fun i => (HbW.out.more ((HS.out _).1 i.property)).cell rfl
  have k4 : ∀ i : { w' // S w' }, i.val.cell? ⟨w.heap.size, 4, none⟩ = some (.int .i64 n) := fun i => (HbW.out.more ((HS.out _).1 i.property)).cell rfl
  have kr : ∀ i : { w' // S w' }, i.val.cell? ⟨rb, ro + cn * 2, none⟩ = some (.int .i64 lg) := fun i => ((HS.out _).1 i.property).cell (HwW.out.cell hrc)
  have hne : Nonempty { w' // S w' } := ⟨⟨_, HS0⟩⟩
  clear hrc
  have hop := Hm.out
  clear Hm
  rcases hop with rfl | rfl
  all_goals
   go_enter Try.func68, Try.ntmps68
   go_wp2_with (fail)
   rw [← HW.out]
   refine J01 (S := S) [(0, true), (1, true), (2, true), (3, true), (4, true), (5, true), (6, true), (7, true), (8, true), (9, true), (10, true), (11, true), (12, true), (13, true), (14, true), (15, true), (16, true), (17, true), (18, true), (19, true), (20, false), (21, true)] (by kernel_rfl) (by kernel_rfl) (by kernel_rfl) HS0 ?_
   iterate 20 (refine J00 rfl (by kernel_rfl) (fun K hK => ?_); go_simp; refine hK _ _ ?_; clear hK K)
   refine J02 rfl (by kernel_rfl) (fun K hK => ?_); go_simp
   refine hK _ _ ((HS.out _).2 ((More.refl _).alloc _ _).drew) ?_; clear hK K
   refine J00 rfl (by kernel_rfl) (fun K hK => ?_); go_simp; refine hK _ _ ?_; clear hK K
   refine J04 ?_
   clear k0 k1 k2 k3 k4 kr hne HS0 hsh
   go_wp2
   go_ret
   refine ⟨_, rfl, ?_, ((HwW.out.alloc _ _).drew)⟩
   exact NewsAt.of (T := 67) (Blk.last W _ 67) rfl
 ·have hL : maskL p ⟨op, a, b, c, n⟩ = [⟨op, a, b, c, n⟩] := by unfold maskL; rw [if_neg hm]
  rw [hL]
  have e3 : (op != 3) = true := by simp; exact fun h => hm (.inl h)
  have e4 : (op != 4) = true := by simp; exact fun h => hm (.inr h)
  clear hL hm hc hra hr hok
  go_enter Try.func68, Try.ntmps68
  go_wp2
  go_ret
  refine ⟨_, rfl, NewsAt.of (cs := #[.int .i64 op, .int .i64 a, .int .i64 b, .int .i64 c, .int .i64 n]) (T := 67) (by simpa using Blk.last (w.alloc (.cells #[.int .i64 op, .int .i64 a, .int .i64 b, .int .i64 c, .int .i64 n] 67)) #[.int .i64 op, .int .i64 a, .int .i64 b, .int .i64 c, .int .i64 n] 67) rfl, ((More.refl _).alloc _ _).alloc _ _⟩
theorem Ji5 : (Try.prog.info? 67).map (fun i => (i.zero, i.size, i.bytes)) = some (some (.agg #[.int .i64 0, .int .i64 0, .int .i64 0, .int .i64 0, .int .i64 0]), 5, 40) := by kernel_rfl
theorem Jgk (x : Value) (n j : Nat) (h : j < n) : (madeCells #[x] n)[j]? = some x := by unfold madeCells; simp [h, Nat.mod_one]

theorem J98 {p : Prg} {k : Nat} (ok : p.Ok 200 8) (hk : k < p.cl) : ∀ i ∈ maskL p (p.ins k), i.op = 7 ∨ i.op = 8 → 0 ≤ i.n ∧ i.n < p.cl := by
 intro i hi h
 unfold maskL at hi
 by_cases hm : (p.ins k).op = 3 ∨ (p.ins k).op = 4
 ·rw [if_pos hm] at hi
  simp only [List.mem_cons, List.not_mem_nil, or_false] at hi
  rcases hi with rfl | rfl | rfl
  ·dsimp only at h; omega
  ·dsimp only at h; omega
  ·dsimp only at h; omega
 ·rw [if_neg hm] at hi
  obtain rfl : i = p.ins k := by simpa using hi
  have hI := ok.2.2.2 k hk
  unfold InsOk at hI
  rcases h with h | h
  ·simp [h] at hI
   exact hI.2.2.2
  ·simp [h] at hI
   exact hI.2.2.2
theorem J61 {p : Prg} (ok : p.Ok 200 8) : ∀ n, n ≤ p.cl → ∀ i ∈ codeL p n, i.op = 7 ∨ i.op = 8 → 0 ≤ i.n ∧ i.n < p.cl
 | 0, _, i, hi, _ => by simp [codeL] at hi
 | n + 1, hn, i, hi, h => by
  rw [codeL, List.mem_append] at hi
  rcases hi with hi | hi
  ·exact J61 ok n (by omega) i hi h
  ·exact J98 ok (by omega) i hi h

structure H1 (w : World) (p : Prg) (rv c0 : Value) (k : Nat) (cv : Value) (wr : World) : Prop where
 box : Blk wr w.heap.size #[rv, c0] 30
 own : wr.ownsRow (w.heap.size + 2) 67 5 cv (J0n p k) (flatI (codeL p k))
 room : ∀ j, j < p.cl → ∃ v, Wr wr (w.heap.size + 1) j v
 done : ∀ j, j < k → wr.cell? ⟨w.heap.size + 1, j, none⟩ = some (.int .i64 (J0n p j : Nat))
 more : More w wr

theorem H1.start (w : World) (p : Prg) (rv c0 : Value) : H1 w p rv c0 0 (.slice none 0 0) ((w.alloc (.cells #[rv, c0] 30)).alloc (.cells (madeCells #[.int .i64 0] p.cl) 2)) := by
 have hb : Blk ((w.alloc (.cells #[rv, c0] 30)).alloc (.cells (madeCells #[.int .i64 0] p.cl) 2)) (w.heap.size + 1) (madeCells #[.int .i64 0] p.cl) 2 := by
  simpa using Blk.last (w.alloc (.cells #[rv, c0] 30)) (madeCells #[.int .i64 0] p.cl) 2
 exact ⟨(Blk.last _ _ _).more ((More.refl _).alloc _ _), World.ownsRow_nil _ _ _ _, fun j hj => ⟨_, hb.cell (Jgk _ _ _ hj), hb.frozen _⟩, fun j hj => absurd hj (Nat.not_lt_zero _), ((More.refl _).alloc _ _).alloc _ _⟩

theorem H1.step {w : World} {p : Prg} {rv c0 : Value} {k : Nat} {cv : Value} {wr : World} (h : H1 w p rv c0 k cv wr) (hk : k < p.cl) {w1 w2 w3 : World} (cs : Array Value)
  (e1 : w1 = (wr.setCell ⟨w.heap.size + 1, k, none⟩ (.int .i64 (J0n p k : Nat))).alloc (.cells cs 67)) (m2 : More w1 w2) (g3 : w2.grownBy w3 cv.ownBlock) {cv' : Value}
  (own : w3.ownsRow (w.heap.size + 2) 67 5 cv' (J0n p (k + 1)) (flatI (codeL p (k + 1)))) : H1 w p rv c0 (k + 1) cv' w3 := by
 have hb : ∀ b, cv.ownBlock = some b → w.heap.size + 2 ≤ b := fun b hb => (h.own.lt b hb).1
 have g1 : wr.grownBy w1 (some (w.heap.size + 1)) := by rw [e1]; exact J1h (J11 (J0l _ _) _ _) _
 have g2 : wr.grownBy w2 (some (w.heap.size + 1)) := J5o g1 m2
 have n3 : ∀ b, b < w.heap.size + 2 → some b ≠ cv.ownBlock := fun b hlt e => by have := hb b e.symm; omega
 have r1 : ∀ j, j < p.cl → ∃ v, Wr w1 (w.heap.size + 1) j v := fun j hj => by
  obtain ⟨v, hv⟩ := h.room j hj
  rw [e1]
  by_cases q : k = j
  ·subst q; exact ⟨_, (hv.same _).kept (World.grownBy_alloc _ _ none) (by simp)⟩
  ·exact ⟨v, (hv.other _ _ _ (.inr q)).kept (World.grownBy_alloc _ _ none) (by simp)⟩
 have d1 : ∀ j, j < k + 1 → w1.cell? ⟨w.heap.size + 1, j, none⟩ = some (.int .i64 (J0n p j : Nat)) := fun j hj => by
  obtain ⟨v, hv⟩ := h.room j (by omega)
  rw [e1]
  refine ((More.refl _).alloc _ _).cell ?_
  by_cases q : k = j
  ·subst q; exact (hv.same _).1
  ·rw [World.cell?_setCell_other _ _ _ _ (by intro e; simp only [Addr.mk.injEq] at e; omega)]
   exact h.done j (by omega)
 refine ⟨?_, own, fun j hj => ?_, fun j hj => ?_, ?_⟩
 ·have h2 : Blk w2 w.heap.size #[rv, c0] 30 := (g2.block _ h.box.lt (by simp)).trans h.box
  exact (g3.block _ h2.lt (n3 _ (by omega))).trans h2
 ·obtain ⟨v, hv⟩ := r1 j hj
  exact ⟨v, (hv.kept (m2.grow none) (by simp)).kept g3 (n3 _ (by omega))⟩
 ·exact g3.cell (m2.cell (d1 j hj)) (n3 _ (by show w.heap.size + 1 < _; omega))
 ·have m1 : More w w1 := by rw [e1]; exact (h.more.setCell (by simp) _).alloc _ _
  exact (m1.trans m2).grownBy g3 (fun b e => by have := hb b e; omega)

def mixL (p : Prg) (q j : Nat) : Ins := if j < q then hardL p j else (codeL p p.cl).getD j ⟨0, 0, 0, 0, 0⟩
structure InsWr (w : World) (g j : Nat) (i : Ins) : Prop where
 op : Wr w g (j * 5) (.int .i64 i.op)
 a : Wr w g (j * 5 + 1) (.int .i64 i.a)
 b : Wr w g (j * 5 + 2) (.int .i64 i.b)
 c : Wr w g (j * 5 + 3) (.int .i64 i.c)
 n : Wr w g (j * 5 + 4) (.int .i64 i.n)
structure H2 (w : World) (p : Prg) (gc q : Nat) (wr : World) : Prop where
 code : ∀ j, j < J0n p p.cl → InsWr wr gc j (mixL p q j)
 starts : ∀ j, j < p.cl → wr.cell? ⟨w.heap.size + 1, j, none⟩ = some (.int .i64 (J0n p j : Nat))
 lo : w.heap.size + 2 ≤ gc
 hi : gc < wr.heap.size
 more : More w wr

theorem Jdz {L : List Ins} {j : Nat} (hj : j < L.length) (d : Ins) : L[j]? = some (L.getD j d) := by
 rw [List.getD_eq_getElem?_getD]
 rw [List.getElem?_eq_getElem hj]
 rfl

theorem H1.second {w : World} {p : Prg} {rv c0 : Value} {gc cap : Nat} {wr : World} (h : H1 w p rv c0 p.cl (.slice (some ⟨gc, 0, none⟩) (J0n p p.cl) cap) wr) : H2 w p gc 0 wr := by
 have hl := h.own.lt gc rfl
 refine ⟨fun j hj => ?_, h.done, hl.1, hl.2, h.more⟩
 have e := Jar (codeL p p.cl) j _ (Jdz hj ⟨0, 0, 0, 0, 0⟩)
 have hm : mixL p 0 j = (codeL p p.cl).getD j ⟨0, 0, 0, 0, 0⟩ := by unfold mixL; rw [if_neg (Nat.not_lt_zero _)]
 rw [hm]
 have fz : ∀ o, wr.frozen? ⟨gc, o, none⟩ = false := fun o => World.ownsRow.frozenAt h.own o
 refine ⟨⟨?_, fz _⟩, ⟨?_, fz _⟩, ⟨?_, fz _⟩, ⟨?_, fz _⟩, ⟨?_, fz _⟩⟩
 ·rw [World.ownsRow.cellAt h.own _ (by omega)]; exact e.1
 ·rw [World.ownsRow.cellAt h.own _ (by omega)]; exact e.2.1
 ·rw [World.ownsRow.cellAt h.own _ (by omega)]; exact e.2.2.1
 ·rw [World.ownsRow.cellAt h.own _ (by omega)]; exact e.2.2.2.1
 ·rw [World.ownsRow.cellAt h.own _ (by omega)]; exact e.2.2.2.2

theorem InsWr.more {w w' : World} {g j : Nat} {i : Ins} (m : More w w') (h : InsWr w g j i) : InsWr w' g j i :=
 ⟨h.op.kept (m.grow none) (by simp), h.a.kept (m.grow none) (by simp), h.b.kept (m.grow none) (by simp), h.c.kept (m.grow none) (by simp), h.n.kept (m.grow none) (by simp)⟩

theorem J8c (p : Prg) (q : Nat) : mixL p q q = (codeL p p.cl).getD q ⟨0, 0, 0, 0, 0⟩ := by unfold mixL; rw [if_neg (Nat.lt_irrefl _)]
theorem J8i (p : Prg) {q j : Nat} (h : j ≠ q) : mixL p (q + 1) j = mixL p q j := by
 unfold mixL
 by_cases e : j < q
 ·rw [if_pos e, if_pos (by omega)]
 ·rw [if_neg e, if_neg (by omega)]
theorem J8u (p : Prg) (q : Nat) : mixL p (q + 1) q = leadL p (mixL p q q) := by
 rw [J8c]; unfold mixL hardL; rw [if_pos (by omega)]

theorem H2.pass {w : World} {p : Prg} {gc q : Nat} {wr w' : World} (h : H2 w p gc q wr) (m : More wr w') (h7 : ¬ ((mixL p q q).op = 7 ∨ (mixL p q q).op = 8)) : H2 w p gc (q + 1) w' := by
 refine ⟨fun j hj => ?_, fun j hj => m.cell (h.starts j hj), h.lo, Nat.lt_of_lt_of_le h.hi m.size, h.more.trans m⟩
 by_cases e : j = q
 ·subst e
  rw [J8u, J2x p h7]
  exact (h.code j hj).more m
 ·rw [J8i p e]
  exact (h.code j hj).more m
theorem H2.lead {w : World} {p : Prg} {gc q : Nat} {wr w' : World} (h : H2 w p gc q wr) (m : More wr w') (h7 : (mixL p q q).op = 7 ∨ (mixL p q q).op = 8) {u : World} (hu : u = w'.setCell ⟨gc, q * 5 + 4, none⟩ (.int .i64 (J0n p (mixL p q q).n.toNat : Nat))) : H2 w p gc (q + 1) u := by
 subst hu
 have hlo := h.lo
 refine ⟨fun j hj => ?_, fun j hj => ?_, h.lo, ?_, ?_⟩
 ·have hc := (h.code j hj).more m
  by_cases e : j = q
  ·subst e
   rw [J8u]
   unfold leadL
   rw [if_pos h7]
   exact ⟨hc.op.other _ _ _ (.inr (by omega)), hc.a.other _ _ _ (.inr (by omega)), hc.b.other _ _ _ (.inr (by omega)), hc.c.other _ _ _ (.inr (by omega)), hc.n.same _⟩
  ·rw [J8i p e]
   exact ⟨hc.op.other _ _ _ (.inr (by omega)), hc.a.other _ _ _ (.inr (by omega)), hc.b.other _ _ _ (.inr (by omega)), hc.c.other _ _ _ (.inr (by omega)), hc.n.other _ _ _ (.inr (by omega))⟩
 ·rw [World.cell?_setCell_other _ _ _ _ (by intro e; simp only [Addr.mk.injEq] at e; omega)]
  exact m.cell (h.starts j hj)
 ·have : (w'.setCell ⟨gc, q * 5 + 4, none⟩ (.int .i64 (J0n p (mixL p q q).n.toNat : Nat))).heap.size = w'.heap.size := by simp [World.setCell]
  rw [this]
  exact Nat.lt_of_lt_of_le h.hi m.size
 ·exact (h.more.trans m).setCell (by show w.heap.size ≤ gc; omega) _
theorem H2.far {w : World} {p : Prg} {gc q : Nat} {wr w' : World} (h : H2 w p gc q wr) (m : More wr w') : H2 w p gc q w' :=
 ⟨fun j hj => (h.code j hj).more m, fun j hj => m.cell (h.starts j hj), h.lo, Nat.lt_of_lt_of_le h.hi m.size, h.more.trans m⟩
theorem H2.end_ {w : World} {p : Prg} {gc : Nat} {wr : World} (h : H2 w p gc (J0n p p.cl) wr) : CodeAt wr gc 0 (J0n p p.cl) (hardL p) := fun j hj => by
 have hc := h.code j hj
 have e : mixL p (J0n p p.cl) j = hardL p j := by unfold mixL; rw [if_pos hj]
 rw [e] at hc
 simp only [Nat.zero_add]
 exact ⟨hc.op.1, hc.a.1, hc.b.1, hc.c.1, hc.n.1⟩

set_option maxHeartbeats 2000000 in
theorem J6h (p : Prg) (l : Loc) (w : World) (hp : PIn w p l) (hok : p.Ok 200 8) :
  Calls Try.prog 48 #[.agg #[.slice l.ra p.rl l.rc, .slice l.ca p.cl l.cc]] w fun e w' => ∃ gc cap, e = .returned (.slice (some ⟨gc, 0, none⟩) (J0n p p.cl) cap) ∧ w.heap.size ≤ gc ∧ CodeAt w' gc 0 (J0n p p.cl) (hardL p) ∧ More w w' := by
 suffices hP : ∀ P : Ending → World → Prop, (∀ gc cap w', w.heap.size ≤ gc → CodeAt w' gc 0 (J0n p p.cl) (hardL p) → More w w' → P (.returned (.slice (some ⟨gc, 0, none⟩) (J0n p p.cl) cap)) w') → Calls Try.prog 48 #[.agg #[.slice l.ra p.rl l.rc, .slice l.ca p.cl l.cc]] w P from hP _ (fun gc cap w' h a b => ⟨gc, cap, rfl, h, a, b⟩)
 intro P hP0
 have HP : Hid (∀ gc cap w', w.heap.size ≤ gc → CodeAt w' gc 0 (J0n p p.cl) (hardL p) → More w w' → P (.returned (.slice (some ⟨gc, 0, none⟩) (J0n p p.cl) cap)) w') := hP0
 have Hp : Hid (PIn w p l ∧ p.Ok 200 8) := ⟨hp, hok⟩
 have hcl0 := hok.2.1
 have hcl1 := hok.2.2.1
 have hca := hp.hc (by omega)
 obtain ⟨i0, hi, hz0, hz1, hz2⟩ := info_parts Ji5
 have Hi : Hid (Try.prog.info? 67 = some i0 ∧ i0.zero = some (.agg #[.int .i64 0, .int .i64 0, .int .i64 0, .int .i64 0, .int .i64 0]) ∧ i0.size = 5 ∧ i0.bytes = 40) := ⟨hi, hz0, hz1, hz2⟩
 obtain ⟨ra, Hra⟩ : ∃ x, Hid (l.ra = x) := ⟨_, rfl⟩
 obtain ⟨rl, Hrl⟩ : ∃ x, Hid (p.rl = x) := ⟨_, rfl⟩
 obtain ⟨rc, Hrc⟩ : ∃ x, Hid (l.rc = x) := ⟨_, rfl⟩
 obtain ⟨cb, Hcb⟩ : ∃ x, Hid (l.cb = x) := ⟨_, rfl⟩
 obtain ⟨co, Hco⟩ : ∃ x, Hid (l.co = x) := ⟨_, rfl⟩
 obtain ⟨cc, Hcc⟩ : ∃ x, Hid (l.cc = x) := ⟨_, rfl⟩
 obtain ⟨cl, Hcl⟩ : ∃ x, Hid (p.cl = x) := ⟨_, rfl⟩
 rw [hca, Hra.out, Hrl.out, Hrc.out, Hcb.out, Hco.out, Hcc.out, Hcl.out]
 rw [Hcl.out] at hcl0 hcl1
 have HC : Hid (∀ w1 : World, More w w1 → CodeAt w1 cb co cl p.ins) := fun w1 m1 => by
  have := hp.code.more m1
  rw [Hcb.out, Hco.out, Hcl.out] at this
  exact this
 have HM : Hid (∀ k, k < cl → ∀ w1 : World, More w w1 → Calls Try.prog 68 #[.agg #[.int .i64 (p.ins k).op, .int .i64 (p.ins k).a, .int .i64 (p.ins k).b, .int .i64 (p.ins k).c, .int .i64 (p.ins k).n], .slice ra rl rc] w1 fun e w' => ∃ g, e = .returned (.slice (some ⟨g, 0, none⟩) (maskL p (p.ins k)).length (maskL p (p.ins k)).length) ∧ NewsAt w' g (maskL p (p.ins k)) ∧ More w1 w') := fun k hk w1 m1 => by
  have hI := hok.2.2.2 k (by rw [Hcl.out]; exact hk)
  have := J8r p (p.ins k) l.ra l.rc l.rb l.ro w1 hp.hr (hp.regs.more m1) hok.1 (fun h => by
   unfold InsOk at hI
   rcases h with h | h
   ·simp [h] at hI; exact hI.2.2
   ·simp [h] at hI; exact hI.2.2)
  rw [Hra.out, Hrl.out, Hrc.out] at this
  exact this
 have Hst : Hid (∀ k, k ≤ cl → J0n p k ≤ 600) := fun k hk => by have := J5z p k; omega
 have HS0 : Hid (H1 w p (.slice ra rl rc) (.slice (some ⟨cb, co, none⟩) cl cc) 0 (.slice none 0 0) ((w.alloc (.cells #[.slice ra rl rc, .slice (some ⟨cb, co, none⟩) cl cc] 30)).alloc (.cells (madeCells #[.int .i64 0] cl) 2))) := by
  have := H1.start w p (.slice ra rl rc) (.slice (some ⟨cb, co, none⟩) cl cc)
  rw [Hcl.out] at this
  exact this
 have hmk := run_make_row' (P := Try.prog) 78 2 (.int .i64 0) 8 Try.underlying78 info2 rfl .i64 .i64 cl (by omega) (by omega)
 clear hP0 hp hok hi hz0 hz1 hz2 hca
 go_enter Try.func48, Try.ntmps48
 go_wp2_with (fail)
 clear hmk
 go_loopg [16, 3] cl (fun g iv cv wr => ∃ (k : Nat) (va : Option Addr) (vc : Nat), k + g = cl ∧ iv = .int .i64 k ∧ cv = .slice va (J0n p k) vc ∧ Hid (H1 w p (.slice ra rl rc) (.slice (some ⟨cb, co, none⟩) cl cc) k (.slice va (J0n p k) vc) wr))
 case atStart => exact ⟨0, none, 0, by omega, rfl, rfl, HS0.out⟩
 case round =>
  obtain ⟨k, va, vc, hkg, rfl, rfl, Hr⟩ := hrel
  clear HS0
  cases gk with
  | zero =>
   obtain rfl : k = cl := by omega
   have hn0 : 1 ≤ J0n p k := by
    obtain ⟨j, rfl⟩ : ∃ j, k = j + 1 := ⟨k - 1, by omega⟩
    rw [J3c]
    have := (J13 p j).1
    omega
   have hn1 := Hst.out k (Nat.le_refl _)
   obtain ⟨gc, cap, hv, _, _⟩ := Hr.out.own.form (by omega)
   cases hv
   have H20 : Hid (H2 w p gc 0 wr) := by
    have h1 := Hr.out
    rw [← Hcl.out] at h1
    exact h1.second
   have Hpl : Hid (∀ q, q < J0n p k → (mixL p q q).op = 7 ∨ (mixL p q q).op = 8 → 0 ≤ (mixL p q q).n ∧ (mixL p q q).n < k) := fun q hq h => by
    rw [J8c] at h ⊢
    have := J61 Hp.out.2 p.cl (Nat.le_refl _) _ (List.mem_of_getElem? (Jdz (L := codeL p p.cl) (j := q) (by rw [Hcl.out]; exact hq) ⟨0, 0, 0, 0, 0⟩)) h
    rw [Hcl.out] at this ⊢
    exact this
   have Hend : Hid (∀ w', H2 w p gc (J0n p k) w' → P (.returned (.slice (some ⟨gc, 0, none⟩) (J0n p k) vc)) w') := fun w' h2 => by
    have h1 := HP.out gc vc w'
    rw [Hcl.out] at h1
    refine h1 (by have := h2.lo; omega) ?_ h2.more
    have h3 := h2
    rw [← Hcl.out] at h3
    have := h3.end_
    rw [Hcl.out] at this
    exact this
   clear HP HM HC
   obtain ⟨sn, Hsn⟩ : ∃ x, Hid (J0n p k = x) := ⟨_, rfl⟩
   rw [Hsn.out] at hn0 hn1 Hpl Hend Hr ⊢
   obtain ⟨wm, rfl⟩ : ∃ wm, wm = wr := ⟨wr, rfl⟩
   go_wp2_with (fail)
   go_loopg [35] sn (fun g2 iv wr2 => ∃ q : Nat, q + g2 = sn ∧ iv = .int .i64 q ∧ Hid (H2 w p gc q wr2))
   case atStart => exact ⟨0, by omega, rfl, H20.out⟩
   case round =>
    obtain ⟨q, hqg, rfl, Hr2⟩ := hrel
    clear H20
    cases gk with
    | zero =>
     obtain rfl : q = sn := by omega
     have He : Hid (P (.returned (.slice (some ⟨gc, 0, none⟩) q vc)) wr) := Hend.out wr Hr2.out
     clear Hend
     go_wp2
     exact He.out
    | succ g =>
     have hq : q < sn := by omega
     have hqi : (q : Int) < sn := by omega
     have hq63 : wrap64 ((q : Int) + 1) = (q : Int) + 1 := by unfold wrap64; omega
     have hI := Hr2.out.code q (by rw [Hcl.out, Hsn.out]; exact hq)
     have Hpq := Hpl.out q hq
     have Hps : Hid (¬ ((mixL p q q).op = 7 ∨ (mixL p q q).op = 8) → ∀ w', More wr w' → H2 w p gc (q + 1) w') := fun h w' m => Hr2.out.pass m h
     have Hld : Hid ((mixL p q q).op = 7 ∨ (mixL p q q).op = 8 → ∀ w' u, More wr w' → u = w'.setCell ⟨gc, q * 5 + 4, none⟩ (.int .i64 (J0n p (mixL p q q).n.toNat : Nat)) → H2 w p gc (q + 1) u) := fun h w' u m e => Hr2.out.lead m h e
     obtain ⟨⟨op, a, b, c, n⟩, HI⟩ : ∃ x, Hid (mixL p q q = x) := ⟨_, rfl⟩
     rw [HI.out] at hI Hpq Hps Hld
     obtain ⟨⟨c0, _⟩, ⟨c1, _⟩, ⟨c2, _⟩, ⟨c3, _⟩, ⟨c4, f4⟩⟩ := hI
     dsimp only at c0 c1 c2 c3 c4 Hpq Hps Hld
     have zg := Hr2.out.hi
     by_cases h78 : op = 7 ∨ op = 8
     ·have hpq := Hpq h78
      obtain ⟨n0, n1⟩ := hpq
      obtain ⟨nn, rfl⟩ := Int.eq_ofNat_of_zero_le n0
      have hnk : (nn : Int) < (k : Int) := n1
      have hsN := Hr2.out.starts nn (by rw [Hcl.out]; omega)
      have zs := J05 hsN
      dsimp only at zs
      have Hn2 : Hid (∀ w', More (wr.setCell ⟨gc, q * 5 + 4, none⟩ (.int .i64 (J0n p nn : Nat))) w' → H2 w p gc (q + 1) w') := fun w' m' => (Hld.out h78 wr _ (More.refl _) rfl).far m'
      obtain ⟨sN, HsN⟩ : ∃ x, Hid (J0n p nn = x) := ⟨_, rfl⟩
      rw [HsN.out] at hsN Hn2
      have ne1 : ¬ wr.heap.size = gc := by omega
      have ne2 : ¬ gc = wr.heap.size := by omega
      clear Hps Hld Hpq n0 n1
      rcases h78 with rfl | rfl
      all_goals
       go_wp2
       go_roundg g
       case measure => omega
       case rel => exact ⟨q + 1, by omega, by first | rfl | simp, Hn2.out _ ((More.refl _).alloc _ _)⟩
     ·have e7 : (op == 7) = false := by simp; omega
      have e8 : (op == 8) = false := by simp; omega
      have Hn2 : Hid (∀ w', More wr w' → H2 w p gc (q + 1) w') := Hps.out h78
      clear h78 Hps Hld Hpq
      go_wp2
      go_roundg g
      case measure => omega
      case rel => exact ⟨q + 1, by omega, by first | rfl | simp, Hn2.out _ ((More.refl _).alloc _ _)⟩
  | succ g =>
   have hk : k < cl := by omega
   have hki : (k : Int) < cl := by omega
   have hk63 : wrap64 ((k : Int) + 1) = (k : Int) + 1 := by unfold wrap64; omega
   obtain ⟨q0, q1, q2, q3, q4⟩ := HC.out wr Hr.out.more k hk
   have HM1 := HM.out k hk
   have HL : Hid (codeL p (k + 1) = codeL p k ++ maskL p (p.ins k) ∧ J0n p k + (maskL p (p.ins k)).length = J0n p (k + 1) ∧ 1 ≤ (maskL p (p.ins k)).length ∧ (maskL p (p.ins k)).length ≤ 3) := ⟨rfl, by rw [J2b, J3c], by rw [J2b]; exact (J13 p k).1, by rw [J2b]; exact (J13 p k).2⟩
   obtain ⟨L, HLL⟩ : ∃ x, Hid (maskL p (p.ins k) = x) := ⟨_, rfl⟩
   rw [HLL.out] at HM1 HL
   obtain ⟨m, Hlen⟩ : ∃ x, Hid (L.length = x) := ⟨_, rfl⟩
   rw [Hlen.out] at HM1 HL
   have hst0 := Hst.out k (by omega)
   obtain ⟨st, Hstk⟩ : ∃ x, Hid (J0n p k = x) := ⟨_, rfl⟩
   rw [Hstk.out] at HL hst0 Hr ⊢
   obtain ⟨⟨op, a, b, c, n⟩, HI⟩ : ∃ x, Hid (p.ins k = x) := ⟨_, rfl⟩
   rw [HI.out] at q0 q1 q2 q3 q4 HM1
   dsimp only at q0 q1 q2 q3 q4 HM1
   have HM2 : Hid (∀ w1 : World, More w w1 → Calls Try.prog 68 #[.agg #[.int .i64 op, .int .i64 a, .int .i64 b, .int .i64 c, .int .i64 n], .slice ra rl rc] w1 fun e w' => ∃ g, e = .returned (.slice (some ⟨g, 0, none⟩) m m) ∧ NewsAt w' g L ∧ More w1 w') := HM1
   have b0 : wr.cell? ⟨w.heap.size, 0, none⟩ = some (.slice ra rl rc) := Hr.out.box.cell rfl
   have hz0 := Hr.out.box.lt
   obtain ⟨rv, hrv, hfz⟩ := Hr.out.room k (by rw [Hcl.out]; exact hk)
   have hz1 : w.heap.size + 1 < wr.heap.size := J05 hrv
   have n1 : ¬ wr.heap.size = w.heap.size + 1 := by omega
   have n2 : ¬ w.heap.size + 1 = wr.heap.size := by omega
   obtain ⟨w1, Hw1⟩ : ∃ w_ : World, Hid (w_ = (wr.setCell ⟨w.heap.size + 1, k, none⟩ (.int .i64 (st : Nat))).alloc (.cells #[.int .i64 op, .int .i64 a, .int .i64 b, .int .i64 c, .int .i64 n] 67)) := ⟨_, rfl⟩
   have Hm1 : Hid (More w w1) := by rw [Hw1.out]; exact (Hr.out.more.setCell (by simp) _).alloc _ _
   have Hg1 : Hid (wr.grownBy w1 (some (w.heap.size + 1))) := by rw [Hw1.out]; exact J1h (J11 (J0l _ _) _ _) _
   clear HM1
   go_wp2_with (fail)
   rw [← Hw1.out]
   refine (HM2.out w1 Hm1.out).mono ?_
   rintro e w2 ⟨g0, rfl, hnews, m2⟩
   have Hnews : Hid (NewsAt w2 g0 L) := hnews
   have Hm2 : Hid (More w1 w2) := m2
   have Hown2 : Hid (w2.ownsRow (w.heap.size + 2) 67 5 (.slice va st vc) st (flatI (codeL p k))) := by
    have ho := Hr.out.own
    rw [Hstk.out] at ho
    refine World.ownsRow.kept ho (J5o Hg1.out m2) ?_
    cases hv : (Value.slice va st vc).ownBlock with
    | none => left; rfl
    | some b =>
     right
     intro e
     have h1 := (World.ownsRow.lt ho b hv).1
     have h2 := Option.some.inj e
     omega
   have Hb2 : Hid (w.heap.size + 2 ≤ w2.heap.size) := by
    have h1 := m2.size
    have h2 := Hg1.out.size
    show _ ≤ _
    omega
   clear hnews m2 q0 q1 q2 q3 q4 b0 hrv hfz
   go_wp2_with (at_builtin; refine wpList_append_lies _ rfl (.tmp 26) (.tmp 30) 28 rfl (w.heap.size + 2) 67 i0 (.agg #[.int .i64 0, .int .i64 0, .int .i64 0, .int .i64 0, .int .i64 0]) 5 40 Try.underlying28 Hi.out.1 Hi.out.2.1 Hi.out.2.2.1 Hi.out.2.2.2 rfl (by decide) (.slice va st vc) st (flatI (codeL p k)) rfl Hown2.out ⟨g0, 0, none⟩ m m (flatI L) rfl (by rw [J4w, Hlen.out]) Hnews.out (J8n L) (by have := HL.out.2.2.1; omega) (by have := HL.out.2.2.2; unfold maxLen; omega) (by have := HL.out.2.2.2; omega) Hb2.out w2.heap.size rfl ?_; intro g3 cap3 w3 own3 gr3 hat3 hlt3)
   have hst3 : st + m = J0n p (k + 1) := HL.out.2.1
   have Hr3 : Hid (H1 w p (.slice ra rl rc) (.slice (some ⟨cb, co, none⟩) cl cc) (k + 1) (.slice (some ⟨g3, 0, none⟩) (J0n p (k + 1)) cap3) w3) := by
    rw [hst3, ← J51, ← HL.out.1] at own3
    have e1 := Hw1.out
    rw [← Hstk.out] at e1 gr3
    have hr := Hr.out
    rw [← Hstk.out] at hr
    exact hr.step (by rw [Hcl.out]; exact hk) _ e1 Hm2.out gr3 own3
   clear own3 gr3 hat3 hlt3
   go_wp2
   go_roundg g
   case measure => omega
   case rel => exact ⟨k + 1, _, cap3, by omega, by first | rfl | simp, by rw [← hst3], Hr3.out⟩
theorem Jhm : (Try.prog.info? 74).map (fun i => (i.zero, i.size, i.bytes)) = some (some (.agg #[.int .i64 0, .bool false]), 2, 16) := by kernel_rfl

def regK (log : Nat → Int) (sec : Nat → Bool) : KS := fun i => ⟨log i, sec i⟩

set_option maxHeartbeats 1000000 in
theorem J9a (a : Option Addr) (n c b o : Nat) (log : Nat → Int) (sec : Nat → Bool) (w : World) (ha : 0 < n → a = some ⟨b, o, none⟩) (hr : RegsAt w b o n log sec) (hn : n ≤ 6) :
  Calls Try.prog 47 #[.slice a n c] w fun e w' => ∃ (a' : Option Addr) (g c' : Nat), e = .returned (.slice a' n c') ∧ (0 < n → a' = some ⟨g, 0, none⟩) ∧ w.heap.size ≤ g ∧ RegsAt w' g 0 n log sec ∧ More w w' := by
 have qn : ∀ (w : World) (a : Option Addr) (n c n' c' : Nat), (binOp .eql 27 (.slice a n c) (.slice none n' c')).run Try.prog w = .ok (.bool a.isNone) w := fun w a n c n' c' => Lib.run_eql_slice_nil w _ _ a n c n' c' Try.underlying27
 cases a with
 | none =>
  obtain rfl : n = 0 := by
   rcases Nat.eq_zero_or_pos n with q | q
   ·exact q
   ·exact absurd (ha q) (by simp)
  clear ha hr hn
  go_enter Try.func47, Try.ntmps47
  go_wp2
  go_ret
  exact ⟨none, w.heap.size, 0, rfl, fun h => absurd h (Nat.lt_irrefl _), Nat.le_refl _, fun i hi => absurd hi (Nat.not_lt_zero _), More.refl _⟩
 | some ad =>
  obtain ⟨i0, hi, hz0, hz1, hz2⟩ := info_parts Jhm
  have Hi : Hid (Try.prog.info? 74 = some i0 ∧ i0.zero = some (.agg #[.int .i64 0, .bool false]) ∧ i0.size = 2 ∧ i0.bytes = 16) := ⟨hi, hz0, hz1, hz2⟩
  have Hn : Hid (n ≤ 6) := hn
  have Hown1 : Hid ((w.alloc (.cells #[] 74)).ownsRow w.heap.size 74 2 (.slice (some ⟨w.heap.size, 0, none⟩) 0 0) 0 []) := World.ownsRow_made _ #[] 0 (Nat.le_refl _) (by unfold maxLen; omega) rfl
  have Hnews : Hid (0 < n → ∃ ad', some ad = some ad' ∧ ∀ j u, (flatK (regK log sec) n)[j]? = some u → (w.alloc (.cells #[] 74)).cell? (ad'.add j) = some u) := fun h0 => by
   refine ⟨_, ha h0, fun j u hu => ?_⟩
   have hj : j < n * 2 := by have := (List.getElem?_eq_some_iff.1 hu).1; rw [J0z] at this; exact this
   rw [Go.WideShapes.add_plain]
   have hk := hr (j / 2) (by omega)
   have hf := J3t (regK log sec) n (j / 2) (by omega)
   by_cases e : j % 2 = 0
   ·have e2 : j / 2 * 2 = j := by omega
    rw [e2] at hk hf
    rw [hf.1] at hu; rw [← Option.some.inj hu]; exact ((More.refl _).alloc _ _).cell hk.1
   ·have e2 : j / 2 * 2 + 1 = j := by omega
    have e3 : o + j / 2 * 2 + 1 = o + j := by omega
    rw [e3] at hk
    rw [e2] at hf
    rw [hf.2] at hu; rw [← Option.some.inj hu]; exact ((More.refl _).alloc _ _).cell hk.2
  clear hi hz0 hz1 hz2 hn ha hr
  go_enter Try.func47, Try.ntmps47
  go_wp2_with (at_builtin; refine J1k _ rfl (.tmp 5) (.tmp 6) 27 rfl w.heap.size 74 i0 (.agg #[.int .i64 0, .bool false]) 2 16 Try.underlying27 Hi.out.1 Hi.out.2.1 Hi.out.2.2.1 Hi.out.2.2.2 rfl (by decide) (.slice (some ⟨w.heap.size, 0, none⟩) 0 0) 0 [] rfl Hown1.out (some ad) n c (flatK (regK log sec) n) rfl (by rw [J0z]) Hnews.out (J4k _ n) (by have := Hn.out; unfold maxLen; omega) (by have := Hn.out; omega) (by simp) ?_; intro va cap w2 own2 gr2 hat2 hnn2)
  go_ret
  simp only [Nat.zero_add, List.nil_append] at own2 ⊢
  have hm : More w w2 := ((More.refl _).alloc _ _).grownBy gr2 (fun k hk => by
   have : w.heap.size = k := by simpa [Value.ownBlock] using hk
   omega)
  by_cases h0 : 0 < n
  ·obtain ⟨g, cap', hv, hlo, _⟩ := own2.form h0
   cases hv
   refine ⟨_, g, cap, rfl, fun _ => rfl, hlo, fun i hi => ?_, hm⟩
   have hf := J3t (regK log sec) n i hi
   simp only [Nat.zero_add]
   exact ⟨by rw [World.ownsRow.cellAt own2 (i * 2) (by omega)]; exact hf.1, by rw [World.ownsRow.cellAt own2 (i * 2 + 1) (by omega)]; exact hf.2⟩
  ·exact ⟨va, w.heap.size, cap, rfl, fun h => absurd h h0, Nat.le_refl _, fun i hi => absurd hi (by omega), hm⟩
end
section
open Go.RowKit
set_option linter.unusedSimpArgs false
set_option linter.unusedVariables false
section
variable {p h : Prg} {st : Nat → Nat} {X : Int} {l : KV} {m : Mem} {s t : St}

theorem Hdn.lt (S : Hdn p h st X) {k o : Nat} (hk : k < p.cl) (ho : o < sizeK p k) : st k + o < h.cl := by
 have := S.mono p.cl k hk (Nat.le_refl _)
 rw [S.cl]; omega

end
section
variable {p h : Prg} {st : Nat → Nat} {X : Int}

theorem Hdn.from_ (S : Hdn p h st X) : ∀ (n : Nat), n ≤ p.cl → ∀ q, q < st n → ∃ k o, k < n ∧ o < sizeK p k ∧ q = st k + o
 | 0, _, q, hq => by rw [S.s0] at hq; omega
 | n + 1, hn, q, hq => by
  have e := S.next n (by omega)
  by_cases c : q < st n
  ·obtain ⟨k, o, h1, h2, h3⟩ := S.from_ n (by omega) q c
   exact ⟨k, o, by omega, h2, h3⟩
  ·exact ⟨n, q - st n, by omega, by omega, by omega⟩
theorem Hdn.most (S : Hdn p h st X) : ∀ (n : Nat), n ≤ p.cl → n ≤ st n ∧ st n ≤ 3 * n
 | 0, _ => by rw [S.s0]; omega
 | n + 1, hn => by
  have e := S.next n (by omega)
  have := S.most n (by omega)
  have := J13 p n
  omega

theorem Jf1 {rl : Nat} {log log' : Nat → Int} {cl cl' : Nat} {i : Ins} (hi : InsOk rl log cl 8 i) (hl : ∀ c, c < rl → log c = log' c) (h7 : ¬ (i.op = 7 ∨ i.op = 8)) : InsOk rl log' cl' 10 i := by
 have up : ∀ x, Reg 8 x → Reg 10 x := fun x q => by unfold Reg at *; omega
 have wd : ∀ c n, Rgn rl c → Wrd log c n → Wrd log' c n := fun c n q w => by
  unfold Rgn at q
  unfold Wrd at *
  rw [← hl c.toNat (by omega)]; exact w
 unfold InsOk at *
 by_cases q1 : i.op = 1
 ·rw [if_pos q1] at *; exact ⟨up _ hi.1, hi.2⟩
 rw [if_neg q1] at *
 by_cases q2 : i.op = 2
 ·rw [if_pos q2] at *; exact ⟨up _ hi.1, up _ hi.2.1, hi.2.2⟩
 rw [if_neg q2] at *
 by_cases q3 : i.op = 3
 ·rw [if_pos q3] at *; exact ⟨up _ hi.1, up _ hi.2.1, hi.2.2⟩
 rw [if_neg q3] at *
 by_cases q4 : i.op = 4
 ·rw [if_pos q4] at *; exact ⟨up _ hi.1, up _ hi.2.1, hi.2.2⟩
 rw [if_neg q4] at *
 by_cases q5 : i.op = 5
 ·rw [if_pos q5] at *; exact ⟨up _ hi.1, hi.2.1, hi.2.2.1, wd _ _ hi.2.2.1 hi.2.2.2⟩
 rw [if_neg q5] at *
 by_cases q6 : i.op = 6
 ·rw [if_pos q6] at *; exact ⟨up _ hi.1, hi.2.1, hi.2.2.1, wd _ _ hi.2.2.1 hi.2.2.2⟩
 rw [if_neg q6, if_neg (fun q => h7 (.inl q)), if_neg (fun q => h7 (.inr q))] at *
 by_cases q9 : i.op = 9
 ·rw [if_pos q9] at *; exact ⟨up _ hi.1, hi.2⟩
 rw [if_neg q9] at *
 by_cases q10 : i.op = 10
 ·rw [if_pos q10] at *; exact ⟨up _ hi.1, up _ hi.2.1, hi.2.2⟩
 rw [if_neg q10] at *
 by_cases q11 : i.op = 11
 ·rw [if_pos q11] at *; exact ⟨up _ hi.1, hi.2⟩
 rw [if_neg q11] at *
 by_cases q12 : i.op = 12
 ·rw [if_pos q12] at *; exact hi
 rw [if_neg q12] at *
 exact ⟨hi.1, up _ hi.2.1, up _ hi.2.2.1, up _ hi.2.2.2.1, hi.2.2.2.2⟩

theorem Jgx (S : Hdn p h st X) (ok : p.Ok 200 8) (hf : p.Fit) (q : Nat) (hq : q < h.cl) : InsOk h.rl h.log h.cl 10 (h.ins q) ∧ (h.ins q).fits := by
 rw [S.cl] at hq
 obtain ⟨k, o, hk, ho, rfl⟩ := S.from_ p.cl (Nat.le_refl _) q hq
 have hi := ok.2.2.2 k hk
 have hfit := hf.ins k hk
 unfold Ins.fits at hfit
 have hX : Reg 10 X := by unfold Reg; rcases S.x with e | e <;> omega
 have iX : I64 X := by unfold I64; rcases S.x with e | e <;> omega
 have i0 : I64 0 := by unfold I64; omega
 rw [← S.rl]
 have small := S.most p.cl (Nat.le_refl _)
 have c200 := ok.2.2.1
 by_cases m : (p.ins k).op = 3 ∨ (p.ins k).op = 4
 ·rw [J1z m] at ho
  obtain ⟨m0, m1, m2⟩ := S.mem k hk m
  have hr : Reg 8 (p.ins k).a ∧ Reg 8 (p.ins k).b ∧ Rgn p.rl (p.ins k).c := by unfold InsOk at hi; rcases m with m | m <;> simpa [m] using hi
  obtain ⟨ra, rb, rc⟩ := hr
  have hcr : (p.ins k).c.toNat < p.rl := by unfold Rgn at rc; omega
  have hlog := ok.1.2 _ hcr
  have h64 := J1s (k := (p.log (p.ins k).c.toNat).toNat) (by omega)
  have ra' : Reg 10 (p.ins k).a := by unfold Reg at *; omega
  have rb' : Reg 10 (p.ins k).b := by unfold Reg at *; omega
  have hoo : o = 0 ∨ o = 1 ∨ o = 2 := by omega
  rcases hoo with rfl | rfl | rfl
  ·rw [Nat.add_zero, m0]
   refine ⟨?_, ⟨by unfold I64; dsimp only; omega, iX, hfit.2.2.1, i0, hfit.2.2.2.2⟩⟩
   unfold InsOk
   simp
   exact ⟨hX, rb'⟩
  ·rw [m1]
   refine ⟨?_, ⟨by unfold I64; dsimp only; omega, iX, i0, i0, by unfold I64 J0e; dsimp only; omega⟩⟩
   unfold InsOk
   simp
   exact ⟨hX, by unfold J0e; omega⟩
  ·rw [m2]
   refine ⟨?_, ⟨hfit.1, hfit.2.1, iX, hfit.2.2.2.1, i0⟩⟩
   unfold InsOk
   rcases m with m | m <;> simp [m] <;> exact ⟨ra', hX, rc⟩
 ·rw [J2n m] at ho
  obtain rfl : o = 0 := by omega
  rw [Nat.add_zero]
  by_cases w : (p.ins k).op = 7 ∨ (p.ins k).op = 8
  ·rw [S.go k hk w]
   have hn : Plc p.cl (p.ins k).n := by unfold InsOk at hi; rcases w with w | w <;> simp [w] at hi <;> simp [hi]
   unfold Plc at hn
   have hn2 : (p.ins k).n.toNat < p.cl := by omega
   have hlt := S.lt (o := 0) hn2 (J13 p _).1
   rw [Nat.add_zero] at hlt
   have hcl := S.cl
   have hP : Plc h.cl (st (p.ins k).n.toNat : Int) := by unfold Plc; omega
   refine ⟨?_, ⟨hfit.1, hfit.2.1, hfit.2.2.1, hfit.2.2.2.1, by unfold I64; dsimp only; omega⟩⟩
   unfold InsOk Reg at hi
   unfold InsOk Reg
   rcases w with w | w <;> simp [w] at hi <;> simp [w, hP]
   ·exact ⟨hi.1, hi.2.1, hi.2.2.1⟩
   ·omega
  ·rw [S.copy k hk m w]
   exact ⟨Jf1 hi (fun c hc => (S.reg c hc).1) w, hfit⟩

theorem Jh3 (S : Hdn p h st X) (ok : p.Ok 200 8) (hf : p.Fit) : Like8 p h := by
 have small := S.most p.cl (Nat.le_refl _)
 have c200 := ok.2.2.1
 have c1 := ok.2.1
 have hcl := S.cl
 refine ⟨⟨⟨by rw [← S.rl]; exact ok.1.1, fun i hi => ?_⟩, by omega, by omega, fun q hq => (Jgx S ok hf q hq).1⟩, ⟨by rw [← S.rl]; exact hf.rl, ?_, fun i hi => ?_, fun q hq => (Jgx S ok hf q hq).2⟩, S.rl, S.reg⟩
 ·rw [← (S.reg i (by rw [S.rl]; exact hi)).1]; exact ok.1.2 i (by rw [S.rl]; exact hi)
 ·have : 600 ≤ maxLen := by decide
  omega
 ·rw [← (S.reg i (by rw [S.rl]; exact hi)).1]; exact hf.log i (by rw [S.rl]; exact hi)

end
end
section
open Go.RowKit
set_option linter.unusedSimpArgs false
set_option linter.unusedVariables false
set_option maxRecDepth 8000
abbrev prgV (p : Prg) (l : Loc) : Value := .agg #[.slice l.ra p.rl l.rc, .slice l.ca p.cl l.cc]

theorem RegsAt.other {w : World} {b o rl : Nat} {log : Nat → Int} {sec : Nat → Bool} (h : RegsAt w b o rl log sec) {b' : Nat} (hb : b' ≠ b) (o' : Nat) (v : Value) : RegsAt (w.setCell ⟨b', o', none⟩ v) b o rl log sec := fun i hi =>
  ⟨by rw [World.cell?_setCell_other _ _ _ _ (by intro e; simp only [Addr.mk.injEq] at e; exact hb e.1)]; exact (h i hi).1, by rw [World.cell?_setCell_other _ _ _ _ (by intro e; simp only [Addr.mk.injEq] at e; exact hb e.1)]; exact (h i hi).2⟩
theorem CodeAt.other {w : World} {b o cl : Nat} {ins : Nat → Ins} (h : CodeAt w b o cl ins) {b' : Nat} (hb : b' ≠ b) (o' : Nat) (v : Value) : CodeAt (w.setCell ⟨b', o', none⟩ v) b o cl ins := fun i hi => by
  have k : ∀ x, (w.setCell ⟨b', o', none⟩ v).cell? ⟨b, x, none⟩ = w.cell? ⟨b, x, none⟩ := fun x => World.cell?_setCell_other _ _ _ _ (by intro e; simp only [Addr.mk.injEq] at e; exact hb e.1)
  rw [k, k, k, k, k]
  exact h i hi

def Made (p : Prg) (w : World) (e : Ending) (w' : World) : Prop :=
  ∃ f : Int × Int, Told p f ∧ More w w' ∧
    ((f.1 = 0 ∧ ∃ lh : Loc, PIn w' (hardP p) lh ∧ e = .returned (.tuple #[prgV (hardP p) lh, .agg #[.int .i64 0, .int .i64 0]])) ∨
     (¬ f.1 = 0 ∧ e = .returned (.tuple #[.agg #[.slice none 0 0, .slice none 0 0], .agg #[.int .i64 f.1, .int .i64 f.2]])))

set_option maxHeartbeats 2000000 in
theorem Jbq (p : Prg) (l : Loc) (w : World) (hp : PIn w p l) (hf : p.Fit) : Calls Try.prog 21 #[prgV p l] w (Made p w) := by
  unfold prgV
  have C1 : Hid (∀ w1 : World, More w w1 → Calls Try.prog 13 #[.agg #[.slice l.ra p.rl l.rc, .slice l.ca p.cl l.cc]] w1 fun e w' => ∃ f : Int × Int, Told p f ∧ e = .returned (.agg #[.int .i64 f.1, .int .i64 f.2]) ∧ More w1 w') := fun w1 m1 => Jbb p l w1 (hp.more m1) hf
  have C2 : Hid (p.Ok 200 8 → ∀ w1 : World, More w w1 → Calls Try.prog 47 #[.slice l.ra p.rl l.rc] w1 fun e w' => ∃ (a' : Option Addr) (g c' : Nat), e = .returned (.slice a' p.rl c') ∧ (0 < p.rl → a' = some ⟨g, 0, none⟩) ∧ w1.heap.size ≤ g ∧ RegsAt w' g 0 p.rl p.log p.sec ∧ More w1 w') := fun ok w1 m1 =>
    J9a l.ra p.rl l.rc l.rb l.ro p.log p.sec w1 hp.hr (hp.regs.more m1) ok.1.1
  have C3 : Hid (p.Ok 200 8 → ∀ w1 : World, More w w1 → Calls Try.prog 48 #[.agg #[.slice l.ra p.rl l.rc, .slice l.ca p.cl l.cc]] w1 fun e w' => ∃ gc cap, e = .returned (.slice (some ⟨gc, 0, none⟩) (J0n p p.cl) cap) ∧ w1.heap.size ≤ gc ∧ CodeAt w' gc 0 (J0n p p.cl) (hardL p) ∧ More w1 w') := fun ok w1 m1 => J6h p l w1 (hp.more m1) ok
  clear hp hf
  obtain ⟨ra, Hra⟩ : ∃ x, Hid (l.ra = x) := ⟨_, rfl⟩
  obtain ⟨rl, Hrl⟩ : ∃ x, Hid (p.rl = x) := ⟨_, rfl⟩
  obtain ⟨rc, Hrc⟩ : ∃ x, Hid (l.rc = x) := ⟨_, rfl⟩
  obtain ⟨ca, Hca⟩ : ∃ x, Hid (l.ca = x) := ⟨_, rfl⟩
  obtain ⟨cl, Hcl⟩ : ∃ x, Hid (p.cl = x) := ⟨_, rfl⟩
  obtain ⟨cc, Hcc⟩ : ∃ x, Hid (l.cc = x) := ⟨_, rfl⟩
  obtain ⟨sn, Hsn⟩ : ∃ x, Hid (J0n p p.cl = x) := ⟨_, rfl⟩
  rw [Hsn.out] at C3
  rw [Hra.out, Hrl.out, Hrc.out, Hca.out, Hcl.out, Hcc.out] at C1 C3 ⊢
  rw [Hra.out, Hrl.out, Hrc.out] at C2
  go_enter Try.func21, Try.ntmps21
  obtain ⟨W0, HW0⟩ : ∃ W : World, Hid (W = ((w.alloc (.cells #[.slice ra rl rc, .slice ca cl cc] 30)).alloc (.cells #[.slice none 0 0, .slice none 0 0] 30)).alloc (.cells #[.int .i64 0, .int .i64 0] 33)) := ⟨_, rfl⟩
  have Hm0 : Hid (More w W0) := HW0.out ▸ (((More.refl _).alloc _ _).alloc _ _).alloc _ _
  have B0 : Hid (Blk W0 w.heap.size #[.slice ra rl rc, .slice ca cl cc] 30) := HW0.out ▸ (((Blk.last _ _ _).alloc _ _).alloc _ _)
  have B1 : Hid (Blk W0 (w.heap.size + 1) #[.slice none 0 0, .slice none 0 0] 30) := HW0.out ▸ ((by simpa using Blk.last (w.alloc (.cells #[.slice ra rl rc, .slice ca cl cc] 30)) #[.slice none 0 0, .slice none 0 0] 30 : Blk _ (w.heap.size + 1) _ _).alloc _ _)
  have B2 : Hid (Blk W0 (w.heap.size + 1 + 1) #[.int .i64 0, .int .i64 0] 33) := HW0.out ▸ (by simpa using Blk.last ((w.alloc (.cells #[.slice ra rl rc, .slice ca cl cc] 30)).alloc (.cells #[.slice none 0 0, .slice none 0 0] 30)) #[.int .i64 0, .int .i64 0] 33 : Blk _ (w.heap.size + 1 + 1) _ _)
  go_wp2_with (fail)
  rw [← HW0.out]
  refine (C1.out W0 Hm0.out).mono ?_
  rintro e w1 ⟨⟨f1, f2⟩, hT, rfl, m1⟩
  dsimp only
  have HT : Hid (Told p (f1, f2)) := hT
  have Hm1 : Hid (More W0 w1) := m1
  clear hT m1 C1
  obtain ⟨W, HW⟩ : ∃ W : World, Hid (W = w1.alloc (.cells #[.int .i64 f1, .int .i64 f2] 33)) := ⟨_, rfl⟩
  have HmW : Hid (More W0 W) := by rw [HW.out]; exact Hm1.out.alloc _ _
  have D0 : Hid (Blk W w.heap.size #[.slice ra rl rc, .slice ca cl cc] 30) := B0.out.more HmW.out
  have D1 : Hid (Blk W (w.heap.size + 1) #[.slice none 0 0, .slice none 0 0] 30) := B1.out.more HmW.out
  have D2 : Hid (Blk W (w.heap.size + 1 + 1) #[.int .i64 0, .int .i64 0] 33) := B2.out.more HmW.out
  have D3 : Hid (Blk W w1.heap.size #[.int .i64 f1, .int .i64 f2] 33) := by rw [HW.out]; exact Blk.last _ _ _
  have Hz1 : Hid (w.heap.size + 3 ≤ w1.heap.size) := by
    have h1 := (B2.out.more Hm1.out).lt
    show _ ≤ _
    omega
  by_cases h0 : f1 = 0
  · subst h0
    obtain ⟨hok, lk, hk, hk0⟩ := HT.out.ok rfl
    have HO : Hid (p.Ok 200 8) := hok
    clear hok hk hk0
    have C2' : Hid (∀ w1 : World, More w w1 → Calls Try.prog 47 #[.slice ra rl rc] w1 fun e w' => ∃ (a' : Option Addr) (g c' : Nat), e = .returned (.slice a' rl c') ∧ (0 < rl → a' = some ⟨g, 0, none⟩) ∧ w1.heap.size ≤ g ∧ RegsAt w' g 0 rl p.log p.sec ∧ More w1 w') := C2.out HO.out
    have C3' : Hid (∀ w1 : World, More w w1 → Calls Try.prog 48 #[.agg #[.slice ra rl rc, .slice ca cl cc]] w1 fun e w' => ∃ gc cap, e = .returned (.slice (some ⟨gc, 0, none⟩) sn cap) ∧ w1.heap.size ≤ gc ∧ CodeAt w' gc 0 sn (hardL p) ∧ More w1 w') := C3.out HO.out
    clear C2 C3
    obtain ⟨S, HS⟩ : ∃ S : World → Prop, Hid (∀ w', S w' ↔ Blk w' w.heap.size #[.slice ra rl rc, .slice ca cl cc] 30) := ⟨_, fun _ => Iff.rfl⟩
    have HS0 : S W.drew := (HS.out _).2 D0.out
    have k0 : ∀ i : { w' // S w' }, i.val.cell? ⟨w.heap.size, 0, none⟩ = some (.slice ra rl rc) := fun i => ((HS.out _).1 i.property).cell rfl
    have k1 : ∀ i : { w' // S w' }, i.val.cell? ⟨w.heap.size, 1, none⟩ = some (.slice ca cl cc) := fun i => ((HS.out _).1 i.property).cell rfl
    have hne : Nonempty { w' // S w' } := ⟨⟨_, HS0⟩⟩
    go_wp2_with (fail)
    rw [← HW.out]
    refine J01 (S := S) [(0, true), (1, true), (3, true), (6, true), (2, false), (4, false), (5, true), (7, false), (8, false)] (by kernel_rfl) (by kernel_rfl) (by kernel_rfl) HS0 ?_
    iterate 4 (refine J00 rfl (by kernel_rfl) (fun K hK => ?_); go_simp; refine hK _ _ ?_; clear hK K)
    refine J02 rfl (by kernel_rfl) (fun K hK => ?_); go_simp
    have HmD : Hid (More w W.drew) := (Hm0.out.trans HmW.out).drew
    refine (C2'.out _ HmD.out).mono ?_
    rintro e w2 ⟨a', g, c', rfl, ha', hg, hregs, m2⟩
    have Hm2 : Hid (More W w2) := (More.refl W).drew.trans m2
    have Hreg2 : Hid ((0 < rl → a' = some ⟨g, 0, none⟩) ∧ W.heap.size ≤ g ∧ RegsAt w2 g 0 rl p.log p.sec) := ⟨ha', hg, hregs⟩
    clear ha' hg hregs m2
    go_simp
    refine hK _ _ ((HS.out _).2 (D0.out.more Hm2.out)) ?_; clear hK K
    refine J02 rfl (by kernel_rfl) (fun K hK => ?_); go_simp
    refine (C3'.out w2 ((Hm0.out.trans HmW.out).trans Hm2.out)).mono ?_
    rintro e w3 ⟨gc, cap, rfl, hgc, hcode, m3⟩
    have Hm3 : Hid (More W w3) := Hm2.out.trans m3
    have Hreg3 : Hid (RegsAt w3 g 0 rl p.log p.sec) := Hreg2.out.2.2.more m3
    have Hcode3 : Hid (W.heap.size ≤ gc ∧ CodeAt w3 gc 0 sn (hardL p)) := ⟨Nat.le_trans Hm2.out.size hgc, hcode⟩
    clear hgc hcode m3
    have E1 : Hid (Blk w3 (w.heap.size + 1) #[.slice none 0 0, .slice none 0 0] 30) := D1.out.more Hm3.out
    have E2 : Hid (Blk w3 (w.heap.size + 1 + 1) #[.int .i64 0, .int .i64 0] 33) := D2.out.more Hm3.out
    have a0 : w3.cell? ⟨w.heap.size + 1, 0, none⟩ = some (.slice none 0 0) := E1.out.cell rfl
    have a1 : w3.cell? ⟨w.heap.size + 1, 1, none⟩ = some (.slice none 0 0) := E1.out.cell rfl
    have a2 : w3.cell? ⟨w.heap.size + 1 + 1, 0, none⟩ = some (.int .i64 0) := E2.out.cell rfl
    have a3 : w3.cell? ⟨w.heap.size + 1 + 1, 1, none⟩ = some (.int .i64 0) := E2.out.cell rfl
    have z0 := E1.out.frozen 0
    have z1 := E1.out.frozen 1
    have z2 := E2.out.frozen 0
    have z3 := E2.out.frozen 1
    go_simp
    refine hK _ _ ((HS.out _).2 (D0.out.more Hm3.out)) ?_; clear hK K
    refine J00 rfl (by kernel_rfl) (fun K hK => ?_); go_simp; refine hK _ _ ?_; clear hK K
    refine J02 rfl (by kernel_rfl) (fun K hK => ?_); go_simp
    refine hK _ _ ((HS.out _).2 (((D0.out.more Hm3.out).other (by omega) _ _).other (by omega) _ _)) ?_; clear hK K
    refine J02 rfl (by kernel_rfl) (fun K hK => ?_); go_simp
    refine hK _ _ ((HS.out _).2 (((((D0.out.more Hm3.out).other (by omega) _ _).other (by omega) _ _).other (by omega) _ _).other (by omega) _ _)) ?_; clear hK K
    refine J04 ?_
    clear k0 k1 hne HS0
    go_wp2
    refine bodyPost_ret (v := .tuple #[.agg #[.slice a' rl c', .slice (some ⟨gc, 0, none⟩) sn cap], .agg #[.int .i64 0, .int .i64 0]]) (by simp [results, Try.results21, go_sem, *]) rfl ?_
    have hzW := HmW.out.size
    have hz0 := (D2.out).lt
    have hg := Hreg2.out.2.1
    have hgc := Hcode3.out.1
    refine ⟨(0, f2), HT.out, ?_, .inl ⟨rfl, ⟨a', g, 0, c', some ⟨gc, 0, none⟩, gc, 0, cap⟩, ⟨?_, fun _ => rfl, ?_, ?_⟩, ?_⟩⟩
    · exact ((((((Hm0.out.trans HmW.out).trans Hm3.out).setCell (by show w.heap.size ≤ _; simp) _).setCell (by show w.heap.size ≤ _; simp) _).setCell (by show w.heap.size ≤ _; simp; omega) _).setCell (by show w.heap.size ≤ _; simp; omega) _)
    · intro h
      exact Hreg2.out.1 (by rw [← Hrl.out]; exact h)
    · have := (((Hreg3.out.other (b' := w.heap.size + 1) (by omega) 0 (.slice a' rl c')).other (b' := w.heap.size + 1) (by omega) 1 (.slice (some ⟨gc, 0, none⟩) sn cap)).other (b' := w.heap.size + 1 + 1) (by omega) 0 (.int .i64 0)).other (b' := w.heap.size + 1 + 1) (by omega) 1 (.int .i64 0)
      rw [← Hrl.out] at this ⊢
      exact this
    · have := (((Hcode3.out.2.other (b' := w.heap.size + 1) (by omega) 0 (.slice a' rl c')).other (b' := w.heap.size + 1) (by omega) 1 (.slice (some ⟨gc, 0, none⟩) sn cap)).other (b' := w.heap.size + 1 + 1) (by omega) 0 (.int .i64 0)).other (b' := w.heap.size + 1 + 1) (by omega) 1 (.int .i64 0)
      rw [← Hsn.out] at this ⊢
      exact this
    · unfold prgV hardP
      dsimp only
      rw [Hrl.out, Hsn.out]
  · have e0 : (f1 == 0) = false := by simp [h0]
    have e1 : (f1 != 0) = true := by simp [h0]
    have H0 : Hid (¬ f1 = 0) := h0
    clear h0 C2 C3
    obtain ⟨S, HS⟩ : ∃ S : World → Prop, Hid (∀ w', S w' ↔ Blk w' w1.heap.size #[.int .i64 f1, .int .i64 f2] 33) := ⟨_, fun _ => Iff.rfl⟩
    have HS0 : S W.drew := (HS.out _).2 D3.out
    have k0 : ∀ i : { w' // S w' }, i.val.cell? ⟨w1.heap.size, 0, none⟩ = some (.int .i64 f1) := fun i => ((HS.out _).1 i.property).cell rfl
    have k1 : ∀ i : { w' // S w' }, i.val.cell? ⟨w1.heap.size, 1, none⟩ = some (.int .i64 f2) := fun i => ((HS.out _).1 i.property).cell rfl
    have hne : Nonempty { w' // S w' } := ⟨⟨_, HS0⟩⟩
    have hz1 := Hz1.out
    have a0 : W.cell? ⟨w.heap.size + 1, 0, none⟩ = some (.slice none 0 0) := D1.out.cell rfl
    have a1 : W.cell? ⟨w.heap.size + 1, 1, none⟩ = some (.slice none 0 0) := D1.out.cell rfl
    have a2 : W.cell? ⟨w.heap.size + 1 + 1, 0, none⟩ = some (.int .i64 0) := D2.out.cell rfl
    have a3 : W.cell? ⟨w.heap.size + 1 + 1, 1, none⟩ = some (.int .i64 0) := D2.out.cell rfl
    have z0 := D1.out.frozen 0
    have z1 := D1.out.frozen 1
    have z2 := D2.out.frozen 0
    have z3 := D2.out.frozen 1
    go_wp2_with (fail)
    rw [← HW.out]
    refine J01 (S := S) [(0, true), (1, true), (2, false), (3, false)] (by kernel_rfl) (by kernel_rfl) (by kernel_rfl) HS0 ?_
    iterate 2 (refine J00 rfl (by kernel_rfl) (fun K hK => ?_); go_simp; refine hK _ _ ?_; clear hK K)
    refine J02 rfl (by kernel_rfl) (fun K hK => ?_); go_simp
    refine hK _ _ ((HS.out _).2 ((D3.out.other (by omega) _ _).other (by omega) _ _)) ?_; clear hK K
    refine J02 rfl (by kernel_rfl) (fun K hK => ?_); go_simp
    refine hK _ _ ((HS.out _).2 ((((D3.out.other (by omega) _ _).other (by omega) _ _).other (by omega) _ _).other (by omega) _ _)) ?_; clear hK K
    refine J04 ?_
    clear k0 k1 hne HS0
    go_wp2
    refine bodyPost_ret (v := .tuple #[.agg #[.slice none 0 0, .slice none 0 0], .agg #[.int .i64 f1, .int .i64 f2]]) (by simp [results, Try.results21, go_sem, *]) rfl ?_
    refine ⟨(f1, f2), HT.out, ?_, .inr ⟨H0.out, rfl⟩⟩
    exact (((((Hm0.out.trans HmW.out).setCell (by show w.heap.size ≤ _; simp) _).setCell (by show w.heap.size ≤ _; simp) _).setCell (by show w.heap.size ≤ _; simp; omega) _).setCell (by show w.heap.size ≤ _; simp; omega) _).drew
def Ja2 (p h : Prg) : Prop := p.Ok 200 8 ∧ (∃ lk, Known p lk ∧ (J0c p lk).1 = 0) ∧ h = hardP p

theorem J8w {p h : Prg} (hf : p.Fit) (k : Ja2 p h) : Like8 p h := by
 obtain ⟨ok, ⟨lk, hk, hc⟩, rfl⟩ := k
 exact Jh3 (J8q p) ok hf
theorem J8o {p h : Prg} (k : Ja2 p h) : Still h := by
 obtain ⟨ok, ⟨lk, hk, hc⟩, rfl⟩ := k
 exact Jef (J8q p) ok hk hc

theorem Jb8 (p : Prg) (l : Loc) (w : World) (hp : PIn w p l) (hf : p.Fit) (ok : p.Ok 200 8) (lk : KV) (hk : Known p lk) (hc : (J0c p lk).1 = 0) : Makes 21 p l (Ja2 p) w := by
 unfold Makes
 refine (Jbq p l w hp hf).mono ?_
 rintro e w' ⟨f, hT, m, h | h⟩
 ·obtain ⟨h0, lh, hin, rfl⟩ := h
  exact ⟨hardP p, lh, ⟨ok, ⟨lk, hk, hc⟩, rfl⟩, hin, rfl, m⟩
 ·have : f = J0c p lk := hT.one (.inr ⟨ok, lk, hk, rfl⟩)
  exact absurd (by rw [this]; exact hc) h.1
end
end Go.Proofs.Ytnppcfkmiddaeab
