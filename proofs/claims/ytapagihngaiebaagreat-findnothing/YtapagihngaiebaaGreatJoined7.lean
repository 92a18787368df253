/-
  The texts FdNothing, FdFirst, PAt, RPlace, SpecMore, StepS, RAux, ScriptD, Mach, Meth, Begin, Part, SMap, Fits, NewAux, SMach, one behind the other, with what is used of them.
-/
import Derived.Test.YtapagihngaiebaaGreatJoined0
import Derived.Test.YtapagihngaiebaaGreatJoined6
import Derived.Test.YtapagihngaiebaaGreatJoined1
import Derived.Test.YtapagihngaiebaaGreatRows
import Derived.WalkKit
import Derived.Deep.LoopGhost
import Derived.Deep.AppendLies
import Derived.Laws.AppendOwnNone
import Derived.Laws.IdiomCopy
import Derived.Deep.OwnRows
import Derived.DeepKeys4
import Derived.Maps.Own
import Derived.Test.YtapagihngaiebaaGreatJoined3
namespace Go.Proofs.YtapagihngaiebaaGreat
set_option maxHeartbeats 4000000
section
open Go.RowKit
set_option linter.unusedSimpArgs false
set_option linter.unusedVariables false
set_option maxRecDepth 8000
theorem J59 (p : Prg) (l : Loc) (m m' : Mem) (ml ml' : MLoc) (sa : Option Addr) (sb so sn sc : Nat) (L : List Int) (fuel : Int) (w : World) (hp : PIn w p l) (hf : p.Fit) (hm : MRaw w m ml) (hwd : ∀ j, j < m.ml -> ∀ i, i < m.len j -> B64 (m.wd j i)) (hm' : MRaw w m' ml') (hwd' : ∀ j, j < m'.ml -> ∀ i, i < m'.len j -> B64 (m'.wd j i)) (hL : L.length = sn) (hcap : sn <= sc) (hs : SIn w sa sb so L)
  (Q Q' : Prg -> Prop) (hQ : ∀ h, Q h \/ Q' h -> Like8 p h /\ Still h) (MH : p.Ok 200 8 -> ∀ lk, Known p lk -> (J09 p lk).1 = 0 -> ∀ w1 : World, More w w1 -> Makes 8 p l Q w1) (MK : p.Ok 200 8 -> ∀ lk, Known p lk -> (J09 p lk).1 = 0 -> ∀ w1 : World, More w w1 -> Makes 9 p l Q' w1) (FI : Jc3) :
  Calls Tryz.prog 3 #[.agg #[.slice l.ra p.rl l.rc, .slice l.ca p.cl l.cc], .slice ml.ma m.ml ml.mc, .slice ml'.ma m'.ml ml'.mc, .slice sa sn sc, V fuel] w fun e w' => e = .returned (.bool true) /\ More w w' := by
 suffices hP : ∀ P : Ending -> World -> Prop, (∀ w', More w w' -> P (.returned (.bool true)) w') -> Calls Tryz.prog 3 #[.agg #[.slice l.ra p.rl l.rc, .slice l.ca p.cl l.cc], .slice ml.ma m.ml ml.mc, .slice ml'.ma m'.ml ml'.mc, .slice sa sn sc, V fuel] w P from hP _ (fun w' m => ⟨rfl, m⟩)
 intro P hP0;have HP : Hid (∀ w', More w w' -> P (.returned (.bool true)) w') := hP0;have H : Hid (PIn w p l /\ p.Fit /\ MRaw w m ml /\ (∀ j, j < m.ml -> ∀ i, i < m.len j -> B64 (m.wd j i)) /\ MRaw w m' ml' /\ (∀ j, j < m'.ml -> ∀ i, i < m'.len j -> B64 (m'.wd j i)) /\ (L.length = sn /\ sn <= sc /\ SIn w sa sb so L) /\ ∀ h, Q h \/ Q' h -> Like8 p h /\ Still h) := ⟨hp, hf, hm, hwd, hm', hwd', ⟨hL, hcap, hs⟩, hQ⟩;have CK : Hid (p.Ok 200 8 -> ∀ lk, Known p lk -> (J09 p lk).1 = 0 -> ∀ w1 : World, More w w1 -> Makes 8 p l Q w1) := MH;have CL : Hid (p.Ok 200 8 -> ∀ lk, Known p lk -> (J09 p lk).1 = 0 -> ∀ w1 : World, More w w1 -> Makes 9 p l Q' w1) := MK;have HI : Hid Jc3 := FI;clear hP0 hp hf hm hwd hm' hwd' hQ MK MH FI hL hcap hs;have C1 : Hid (∀ w1 : World, More w w1 -> Calls Tryz.prog 4 #[.agg #[.slice l.ra p.rl l.rc, .slice l.ca p.cl l.cc]] w1 fun e w' => ∃ f : Int × Int, Told p f /\ e = .returned (.agg #[V f.1, V f.2]) /\ More w1 w') := fun w1 m1 => Jan p l w1 (H.out.1.more m1) H.out.2.1
 have CF : Hid (∀ r : Bool, (r = true ↔ J0t p.rl p.log m.ml m.len) -> ∀ w1 : World, More w w1 -> Calls Tryz.prog 5 #[.agg #[.slice l.ra p.rl l.rc, .slice l.ca p.cl l.cc], .slice ml.ma m.ml ml.mc] w1 fun e w' => e = .returned (.bool r) /\ More w1 w') := fun r hr w1 m1 => J9h p l m ml w1 (H.out.1.more m1) (H.out.2.2.1.more m1) r hr
 have CG : Hid (∀ r : Bool, (r = true ↔ J0t p.rl p.log m'.ml m'.len) -> ∀ w1 : World, More w w1 -> Calls Tryz.prog 5 #[.agg #[.slice l.ra p.rl l.rc, .slice l.ca p.cl l.cc], .slice ml'.ma m'.ml ml'.mc] w1 fun e w' => e = .returned (.bool r) /\ More w1 w') := fun r hr w1 m1 => J9h p l m' ml' w1 (H.out.1.more m1) (H.out.2.2.2.2.1.more m1) r hr
 have CU : Hid (p.Ok 200 8 -> J0t p.rl p.log m.ml m.len -> J0t p.rl p.log m'.ml m'.len -> ∀ r : Bool, (r = true ↔ PubI p m m') -> ∀ w1 : World, More w w1 -> Calls Tryz.prog 6 #[.agg #[.slice l.ra p.rl l.rc, .slice l.ca p.cl l.cc], .slice ml.ma m.ml ml.mc, .slice ml'.ma m'.ml ml'.mc] w1 fun e w' => e = .returned (.bool r) /\ More w1 w') := fun hok hf1 hf2 r hr w1 m1 => by
  obtain ⟨f1, f2, f3, f4⟩ := Jeh hok hf1;obtain ⟨g1, g2, g3, g4⟩ := Jeh hok hf2;exact Jbg p l m m' ml ml' w1 (H.out.1.more m1) ((H.out.2.2.1.more m1).in_ f2 f4) ((H.out.2.2.2.2.1.more m1).in_ g2 g4) f1 g1 hok.1.1 (fun c hc => ⟨by have := f3 c (by omega); have := g3 c (by omega); omega, f4 c (by omega)⟩) r hr
 have CS : Hid (∀ r : Bool, (r = true ↔ ScOk L) -> ∀ w1 : World, More w w1 -> Calls Tryz.prog 7 #[.slice sa sn sc] w1 fun e w' => e = .returned (.bool r) /\ More w1 w') := fun r hr w1 m1 => by
  refine (Jdv sa sb so sn sc L H.out.2.2.2.2.2.2.1.1 w1 (H.out.2.2.2.2.2.2.1.2.2.more m1)).mono ?_;rintro e w' ⟨q, rfl, hq, rfl⟩;have : q = r := Bool.eq_iff_iff.2 (hq.trans hr.symm);rw [this];exact ⟨rfl, More.refl _⟩
 have CH : Hid (∀ h lh, Q h \/ Q' h -> p.Ok 200 8 -> J0t p.rl p.log m.ml m.len -> J0t p.rl p.log m'.ml m'.len -> PubI p m m' -> ScOk L -> 0 <= fuel -> fuel <= 4000 -> ∀ w1 : World, More w w1 -> PIn w1 h lh ->
   Calls Tryz.prog 10 #[.agg #[.slice lh.ra h.rl lh.rc, .slice lh.ca h.cl lh.cc], .slice ml.ma m.ml ml.mc, .slice ml'.ma m'.ml ml'.mc, .slice sa sn sc, V fuel] w1 fun e w' => e = .returned (.tuple #[V 0, .bool false, V 0]) /\ More w1 w') := fun h lh q hok hf1 hf2 hpub hsc f0 f1 w1 m1 hin => by
  obtain ⟨k, st⟩ := H.out.2.2.2.2.2.2.2 h q;refine (HI.out h lh m m' ml ml' sa sb so sn sc L fuel w1 hin k.fit (H.out.2.2.1.more m1) H.out.2.2.2.1 (H.out.2.2.2.2.1.more m1) H.out.2.2.2.2.2.1 H.out.2.2.2.2.2.2.1.1 H.out.2.2.2.2.2.2.1.2.1 (H.out.2.2.2.2.2.2.1.2.2.more m1)).mono ?_;rintro e w' ⟨k1, is, c, rfl, hF, mm⟩;obtain ⟨rfl, rfl, rfl⟩ := Jd8 k st hf1 hf2 hpub H.out.2.2.2.1 H.out.2.2.2.2.2.1 hsc f0 f1 hF;exact ⟨rfl, mm⟩
 clear H;obtain ⟨ra, Hra⟩ : ∃ x, Hid (l.ra = x) := ⟨_, rfl⟩;obtain ⟨rl, Hrl⟩ : ∃ x, Hid (p.rl = x) := ⟨_, rfl⟩;obtain ⟨rc, Hrc⟩ : ∃ x, Hid (l.rc = x) := ⟨_, rfl⟩;obtain ⟨ca, Hca⟩ : ∃ x, Hid (l.ca = x) := ⟨_, rfl⟩;obtain ⟨cl, Hcl⟩ : ∃ x, Hid (p.cl = x) := ⟨_, rfl⟩;obtain ⟨cc, Hcc⟩ : ∃ x, Hid (l.cc = x) := ⟨_, rfl⟩;obtain ⟨mv, Hmv⟩ : ∃ x, Hid (Value.slice ml.ma m.ml ml.mc = x) := ⟨_, rfl⟩;obtain ⟨nv, Hnv⟩ : ∃ x, Hid (Value.slice ml'.ma m'.ml ml'.mc = x) := ⟨_, rfl⟩;obtain ⟨sv, Hsv⟩ : ∃ x, Hid (Value.slice sa sn sc = x) := ⟨_, rfl⟩;obtain ⟨FA, HFA⟩ : ∃ x : Prop, Hid (J0t p.rl p.log m.ml m.len = x) := ⟨_, rfl⟩;obtain ⟨FB, HFB⟩ : ∃ x : Prop, Hid (J0t p.rl p.log m'.ml m'.len = x) := ⟨_, rfl⟩;unfold Makes at CK CL;rw [HFA.out] at CF CU CH;rw [HFB.out] at CG CU CH;rw [Hmv.out] at CF CU CH;rw [Hnv.out] at CG CU CH;rw [Hsv.out] at CS CH;rw [Hra.out, Hrl.out, Hrc.out, Hca.out, Hcl.out, Hcc.out] at C1 CF CG CU CK CL;rw [Hra.out, Hrl.out, Hrc.out, Hca.out, Hcl.out, Hcc.out, Hmv.out, Hnv.out, Hsv.out];clear Hmv Hnv Hsv HFA HFB Hra Hrl Hrc Hca Hcl Hcc;go_enter Tryz.func3, Tryz.ntmps3;go_wp2_with (fail)
 refine (C1.out _ ((More.refl _).alloc _ _)).mono ?_;rintro e w1 ⟨⟨f1, f2⟩, hT, rfl, m1⟩;dsimp only at hT |-;have Hm1 : Hid (More w w1) := ((More.refl _).alloc _ _).trans m1;have Hp1 : Hid (Blk w1 w.heap.size #[.slice ra rl rc, .slice ca cl cc] 25) := (Blk.last _ _ _).more m1;have HT : Hid (Told p (f1, f2)) := hT;clear m1 hT C1;by_cases h0 : f1 = 0
 ·subst h0
  obtain ⟨hok, lk, hk, hk0⟩ := HT.out.ok rfl;have HO : Hid (p.Ok 200 8 /\ Known p lk /\ (J09 p lk).1 = 0) := ⟨hok, hk, hk0⟩;clear hok hk hk0 HT;have c0 : w1.cell? ⟨w.heap.size, 0, none⟩ = some (.slice ra rl rc) := Hp1.out.cell rfl;have c1 : w1.cell? ⟨w.heap.size, 1, none⟩ = some (.slice ca cl cc) := Hp1.out.cell rfl;have z1 := Hp1.out.lt;by_cases hA : FA
  ·have D : Hid (∀ w1 : World, More w w1 -> Calls Tryz.prog 5 #[.agg #[.slice ra rl rc, .slice ca cl cc], mv] w1 fun e w' => e = .returned (.bool true) /\ More w1 w') := CF.out true ⟨fun _ => hA, fun _ => rfl⟩
   clear CF;go_wp2_with (fail)
   refine (D.out _ (Hm1.out.alloc _ _)).mono ?_;rintro e w2 ⟨rfl, m_⟩;have Hm2 : Hid (More w w2) := (Hm1.out.alloc _ _).trans m_;have Hp2 : Hid (Blk w2 w.heap.size #[.slice ra rl rc, .slice ca cl cc] 25) := (Hp1.out.alloc _ _).more m_;clear m_ c0 c1 z1 D;have c0 : w2.cell? ⟨w.heap.size, 0, none⟩ = some (.slice ra rl rc) := Hp2.out.cell rfl;have c1 : w2.cell? ⟨w.heap.size, 1, none⟩ = some (.slice ca cl cc) := Hp2.out.cell rfl;by_cases hB : FB
   ·have D : Hid (∀ w1 : World, More w w1 -> Calls Tryz.prog 5 #[.agg #[.slice ra rl rc, .slice ca cl cc], nv] w1 fun e w' => e = .returned (.bool true) /\ More w1 w') := CG.out true ⟨fun _ => hB, fun _ => rfl⟩
    clear CG;go_wp2_with (fail)
    refine (D.out _ Hm2.out).mono ?_;rintro e w3 ⟨rfl, m_⟩;have Hm3 : Hid (More w w3) := Hm2.out.trans m_;have Hp3 : Hid (Blk w3 w.heap.size #[.slice ra rl rc, .slice ca cl cc] 25) := Hp2.out.more m_;clear m_ c0 c1 D;have c0 : w3.cell? ⟨w.heap.size, 0, none⟩ = some (.slice ra rl rc) := Hp3.out.cell rfl;have c1 : w3.cell? ⟨w.heap.size, 1, none⟩ = some (.slice ca cl cc) := Hp3.out.cell rfl;by_cases hU : PubI p m m'
    ·have D : Hid (∀ w1 : World, More w w1 -> Calls Tryz.prog 6 #[.agg #[.slice ra rl rc, .slice ca cl cc], mv, nv] w1 fun e w' => e = .returned (.bool true) /\ More w1 w') := CU.out HO.out.1 hA hB true ⟨fun _ => hU, fun _ => rfl⟩
     clear CU;go_wp2_with (fail)
     refine (D.out _ Hm3.out).mono ?_;rintro e w4 ⟨rfl, m_⟩;have Hm4 : Hid (More w w4) := Hm3.out.trans m_;have Hp4 : Hid (Blk w4 w.heap.size #[.slice ra rl rc, .slice ca cl cc] 25) := Hp3.out.more m_;clear m_ c0 c1 D;have c0 : w4.cell? ⟨w.heap.size, 0, none⟩ = some (.slice ra rl rc) := Hp4.out.cell rfl;have c1 : w4.cell? ⟨w.heap.size, 1, none⟩ = some (.slice ca cl cc) := Hp4.out.cell rfl;by_cases hS : ScOk L
     ·have D : Hid (∀ w1 : World, More w w1 -> Calls Tryz.prog 7 #[sv] w1 fun e w' => e = .returned (.bool true) /\ More w1 w') := CS.out true ⟨fun _ => hS, fun _ => rfl⟩
      clear CS;go_wp2_with (fail)
      refine (D.out _ Hm4.out).mono ?_;rintro e w5 ⟨rfl, m_⟩;have Hm5 : Hid (More w w5) := Hm4.out.trans m_;have Hp5 : Hid (Blk w5 w.heap.size #[.slice ra rl rc, .slice ca cl cc] 25) := Hp4.out.more m_;clear m_ c0 c1 D;have c0 : w5.cell? ⟨w.heap.size, 0, none⟩ = some (.slice ra rl rc) := Hp5.out.cell rfl;have c1 : w5.cell? ⟨w.heap.size, 1, none⟩ = some (.slice ca cl cc) := Hp5.out.cell rfl;by_cases hf0 : fuel < 0
      ·have d0 : decide (fuel < 0) = true := by simp [hf0]
       have Hend : Hid (P (.returned (.bool true)) w5) := HP.out _ Hm5.out;clear CK CL CH HP;go_wp2;exact Hend.out
      have d0 : decide (fuel < 0) = false := by simp; omega
      by_cases hf1 : 4000 < fuel
      ·have d1 : decide (4000 < fuel) = true := by simp [hf1]
       have Hend : Hid (P (.returned (.bool true)) w5) := HP.out _ Hm5.out;clear CK CL CH HP;go_wp2;exact Hend.out
      have d1 : decide (4000 < fuel) = false := by simp; omega
      have CK2 : Hid (∀ w1 : World, More w w1 -> Calls Tryz.prog 8 #[.agg #[.slice ra rl rc, .slice ca cl cc]] w1 fun e w' => ∃ (h : Prg) (lh : Loc), Q h /\ PIn w' h lh /\ e = .returned (.tuple #[.agg #[.slice lh.ra h.rl lh.rc, .slice lh.ca h.cl lh.cc], .agg #[V 0, V 0]]) /\ More w1 w') := CK.out HO.out.1 lk HO.out.2.1 HO.out.2.2;have CL2 : Hid (∀ w1 : World, More w w1 -> Calls Tryz.prog 9 #[.agg #[.slice ra rl rc, .slice ca cl cc]] w1 fun e w' => ∃ (h : Prg) (lh : Loc), Q' h /\ PIn w' h lh /\ e = .returned (.tuple #[.agg #[.slice lh.ra h.rl lh.rc, .slice lh.ca h.cl lh.cc], .agg #[V 0, V 0]]) /\ More w1 w') := CL.out HO.out.1 lk HO.out.2.1 HO.out.2.2;have CH2 : Hid (∀ h lh, Q h \/ Q' h -> ∀ w1 : World, More w w1 -> PIn w1 h lh -> Calls Tryz.prog 10 #[.agg #[.slice lh.ra h.rl lh.rc, .slice lh.ca h.cl lh.cc], mv, nv, sv, V fuel] w1 fun e w' => e = .returned (.tuple #[V 0, .bool false, V 0]) /\ More w1 w') := fun h lh q => CH.out h lh q HO.out.1 hA hB hU hS (by omega) (by omega)
      clear CK CL CH;go_wp2_with (fail)
      refine (CK2.out _ Hm5.out).mono ?_;rintro e w6 ⟨h, lh, hq, hin, rfl, m6⟩;have CH1 : Hid (∀ w1 : World, More w w1 -> PIn w1 h lh -> Calls Tryz.prog 10 #[.agg #[.slice lh.ra h.rl lh.rc, .slice lh.ca h.cl lh.cc], mv, nv, sv, V fuel] w1 fun e w' => e = .returned (.tuple #[V 0, .bool false, V 0]) /\ More w1 w') := CH2.out h lh (.inl hq);have Hm6 : Hid (More w w6) := Hm5.out.trans m6;have Hp6 : Hid (Blk w6 w.heap.size #[.slice ra rl rc, .slice ca cl cc] 25) := Hp5.out.more m6;have Hin6 : Hid (PIn w6 h lh) := hin;obtain ⟨rv1, e1⟩ : ∃ x, Hid (Value.slice lh.ra h.rl lh.rc = x) := ⟨_, rfl⟩;obtain ⟨ra1, rl1, rc1, Ha1⟩ : ∃ a b c, Hid (lh.ra = a /\ h.rl = b /\ lh.rc = c) := ⟨_, _, _, rfl, rfl, rfl⟩;obtain ⟨ca1, cl1, cc1, Ha2⟩ : ∃ a b c, Hid (lh.ca = a /\ h.cl = b /\ lh.cc = c) := ⟨_, _, _, rfl, rfl, rfl⟩;rw [Ha1.out.1, Ha1.out.2.1, Ha1.out.2.2, Ha2.out.1, Ha2.out.2.1, Ha2.out.2.2] at CH1 |-;clear hin hq m6 c0 c1 CK2 e1;obtain ⟨w7, Hw7⟩ : ∃ w_ : World, Hid (w_ = (w6.alloc (.cells #[.slice ra1 rl1 rc1, .slice ca1 cl1 cc1] 25)).alloc (.cells #[V 0, V 0] 30)) := ⟨_, rfl⟩;have Hm7 : Hid (More w6 w7) := by rw [Hw7.out]; exact ((More.refl _).alloc _ _).alloc _ _
      have Hb7 : Hid (Blk w7 w6.heap.size #[.slice ra1 rl1 rc1, .slice ca1 cl1 cc1] 25) := by rw [Hw7.out]; exact (Blk.last _ _ _).alloc _ _
      have Hf7 : Hid (Blk w7 (w6.heap.size + 1) #[V 0, V 0] 30) := by rw [Hw7.out]; show Blk _ _ _ _; simpa using Blk.last (w6.alloc (.cells #[.slice ra1 rl1 rc1, .slice ca1 cl1 cc1] 25)) #[V 0, V 0] 30
      have c0 : w6.cell? ⟨w.heap.size, 0, none⟩ = some (.slice ra rl rc) := Hp6.out.cell rfl;have c1 : w6.cell? ⟨w.heap.size, 1, none⟩ = some (.slice ca cl cc) := Hp6.out.cell rfl;have z6 := Hp6.out.lt;go_wp2_with (fail)
      rw [<- Hw7.out];refine (CL2.out _ (Hm6.out.trans Hm7.out)).mono ?_;rintro e w8 ⟨g, lg, hq, hin, rfl, m8⟩;have CG1 : Hid (∀ w1 : World, More w w1 -> PIn w1 g lg -> Calls Tryz.prog 10 #[.agg #[.slice lg.ra g.rl lg.rc, .slice lg.ca g.cl lg.cc], mv, nv, sv, V fuel] w1 fun e w' => e = .returned (.tuple #[V 0, .bool false, V 0]) /\ More w1 w') := CH2.out g lg (.inr hq);obtain ⟨ra2, rl2, rc2, Ha3⟩ : ∃ a b c, Hid (lg.ra = a /\ g.rl = b /\ lg.rc = c) := ⟨_, _, _, rfl, rfl, rfl⟩;obtain ⟨ca2, cl2, cc2, Ha4⟩ : ∃ a b c, Hid (lg.ca = a /\ g.cl = b /\ lg.cc = c) := ⟨_, _, _, rfl, rfl, rfl⟩;rw [Ha3.out.1, Ha3.out.2.1, Ha3.out.2.2, Ha4.out.1, Ha4.out.2.1, Ha4.out.2.2] at CG1 |-;have Hin8 : Hid (PIn w8 g lg) := hin;have Hm8 : Hid (More w7 w8) := m8;clear hin hq m8 c0 c1 z6 CL2 CH2;obtain ⟨w9, Hw9⟩ : ∃ w_ : World, Hid (w_ = (w8.alloc (.cells #[.slice ra2 rl2 rc2, .slice ca2 cl2 cc2] 25)).alloc (.cells #[V 0, V 0] 30)) := ⟨_, rfl⟩;have Hm9 : Hid (More w8 w9) := by rw [Hw9.out]; exact ((More.refl _).alloc _ _).alloc _ _
      have Hg9 : Hid (Blk w9 w8.heap.size #[.slice ra2 rl2 rc2, .slice ca2 cl2 cc2] 25) := by rw [Hw9.out]; exact (Blk.last _ _ _).alloc _ _
      have Hb9 : Hid (Blk w9 w6.heap.size #[.slice ra1 rl1 rc1, .slice ca1 cl1 cc1] 25) := Hb7.out.more (Hm8.out.trans Hm9.out);have HM9 : Hid (More w w9) := (Hm6.out.trans Hm7.out).trans (Hm8.out.trans Hm9.out);have Hi9 : Hid (PIn w9 h lh) := Hin6.out.more (Hm7.out.trans (Hm8.out.trans Hm9.out));have Hj9 : Hid (PIn w9 g lg) := Hin8.out.more Hm9.out;have f0 : w8.cell? ⟨w6.heap.size + 1, 0, none⟩ = some (V 0) := (Hf7.out.more Hm8.out).cell rfl;have zf := (Hf7.out.more Hm8.out).lt;have b0 : w8.cell? ⟨w6.heap.size, 0, none⟩ = some (.slice ra1 rl1 rc1) := (Hb7.out.more Hm8.out).cell rfl;have b1 : w8.cell? ⟨w6.heap.size, 1, none⟩ = some (.slice ca1 cl1 cc1) := (Hb7.out.more Hm8.out).cell rfl;have zb := (Hb7.out.more Hm8.out).lt;go_wp2_with (fail)
      rw [<- Hw9.out];refine (CH1.out _ HM9.out Hi9.out).mono ?_;rintro e wa ⟨rfl, ma⟩;have Hma : Hid (More w9 wa) := ma;have g0 : wa.cell? ⟨w8.heap.size, 0, none⟩ = some (.slice ra2 rl2 rc2) := (Hg9.out.more ma).cell rfl;have g1 : wa.cell? ⟨w8.heap.size, 1, none⟩ = some (.slice ca2 cl2 cc2) := (Hg9.out.more ma).cell rfl;clear ma f0 zf b0 b1 zb CH1;go_wp2_with (fail)
      refine (CG1.out _ (HM9.out.trans Hma.out) (Hj9.out.more Hma.out)).mono ?_;rintro e wb ⟨rfl, mb⟩;have HMb : Hid (More w wb) := (HM9.out.trans Hma.out).trans mb;clear mb g0 g1 CG1;obtain ⟨n, hn⟩ : ∃ n, wb.heap.size = n := ⟨_, rfl⟩;obtain ⟨u1, Hu1⟩ : ∃ w_ : World, Hid (w_ = wb.alloc (.cells #[V 0, .bool false] 40)) := ⟨_, rfl⟩;have L1 : Hid (Blk u1 (n) #[V 0, .bool false] 40 /\ u1.heap.size = n + 1 /\ More wb u1) := by rw [Hu1.out]; exact J2e hn _ _
      obtain ⟨u2, Hu2⟩ : ∃ w_ : World, Hid (w_ = u1.alloc (.cells #[V 5, V 0, V 0, V 0, V 0, V 8, V 0, V 1, V 1, V 2, V 9, V 0, V 0, V 0, V 0] 42)) := ⟨_, rfl⟩;have L2 : Hid (Blk u2 (n + 1) #[V 5, V 0, V 0, V 0, V 0, V 8, V 0, V 1, V 1, V 2, V 9, V 0, V 0, V 0, V 0] 42 /\ u2.heap.size = n + 1 + 1 /\ More u1 u2) := by rw [Hu2.out]; exact J2e L1.out.2.1 _ _
      obtain ⟨u3, Hu3⟩ : ∃ w_ : World, Hid (w_ = u2.alloc (.cells #[.slice (some ⟨n, 0, none⟩) 1 1, .slice (some ⟨n + 1, 0, none⟩) 3 3] 25)) := ⟨_, rfl⟩;have L3 : Hid (Blk u3 (n + 1 + 1) #[.slice (some ⟨n, 0, none⟩) 1 1, .slice (some ⟨n + 1, 0, none⟩) 3 3] 25 /\ u3.heap.size = n + 1 + 1 + 1 /\ More u2 u3) := by rw [Hu3.out]; exact J2e L2.out.2.1 _ _
      obtain ⟨u4, Hu4⟩ : ∃ w_ : World, Hid (w_ = u3.alloc (.cells #[V 5, V 0, V 0, V 0, V 0, V 8, V 0, V 1, V 1, V 3, V 12, V 0, V 0, V 0, V 0, V 9, V 0, V 0, V 0, V 0] 42)) := ⟨_, rfl⟩;have L4 : Hid (Blk u4 (n + 1 + 1 + 1) #[V 5, V 0, V 0, V 0, V 0, V 8, V 0, V 1, V 1, V 3, V 12, V 0, V 0, V 0, V 0, V 9, V 0, V 0, V 0, V 0] 42 /\ u4.heap.size = n + 1 + 1 + 1 + 1 /\ More u3 u4) := by rw [Hu4.out]; exact J2e L3.out.2.1 _ _
      obtain ⟨u5, Hu5⟩ : ∃ w_ : World, Hid (w_ = u4.alloc (.cells #[.slice (some ⟨n, 0, none⟩) 1 1, .slice (some ⟨n + 1 + 1 + 1, 0, none⟩) 4 4] 25)) := ⟨_, rfl⟩;have L5 : Hid (Blk u5 (n + 1 + 1 + 1 + 1) #[.slice (some ⟨n, 0, none⟩) 1 1, .slice (some ⟨n + 1 + 1 + 1, 0, none⟩) 4 4] 25 /\ u5.heap.size = n + 1 + 1 + 1 + 1 + 1 /\ More u4 u5) := by rw [Hu5.out]; exact J2e L4.out.2.1 _ _
      obtain ⟨u6, Hu6⟩ : ∃ w_ : World, Hid (w_ = u5.alloc (.cells #[V 0] 2)) := ⟨_, rfl⟩;have L6 : Hid (Blk u6 (n + 1 + 1 + 1 + 1 + 1) #[V 0] 2 /\ u6.heap.size = n + 1 + 1 + 1 + 1 + 1 + 1 /\ More u5 u6) := by rw [Hu6.out]; exact J2e L5.out.2.1 _ _
      obtain ⟨u7, Hu7⟩ : ∃ w_ : World, Hid (w_ = u6.alloc (.cells #[.slice (some ⟨n + 1 + 1 + 1 + 1 + 1, 0, none⟩) 1 1] 43)) := ⟨_, rfl⟩;have L7 : Hid (Blk u7 (n + 1 + 1 + 1 + 1 + 1 + 1) #[.slice (some ⟨n + 1 + 1 + 1 + 1 + 1, 0, none⟩) 1 1] 43 /\ u7.heap.size = n + 1 + 1 + 1 + 1 + 1 + 1 + 1 /\ More u6 u7) := by rw [Hu7.out]; exact J2e L6.out.2.1 _ _
      obtain ⟨u8, Hu8⟩ : ∃ w_ : World, Hid (w_ = u7.alloc (.cells #[V 1] 2)) := ⟨_, rfl⟩;have L8 : Hid (Blk u8 (n + 1 + 1 + 1 + 1 + 1 + 1 + 1) #[V 1] 2 /\ u8.heap.size = n + 1 + 1 + 1 + 1 + 1 + 1 + 1 + 1 /\ More u7 u8) := by rw [Hu8.out]; exact J2e L7.out.2.1 _ _
      obtain ⟨u9, Hu9⟩ : ∃ w_ : World, Hid (w_ = u8.alloc (.cells #[.slice (some ⟨n + 1 + 1 + 1 + 1 + 1 + 1 + 1, 0, none⟩) 1 1] 43)) := ⟨_, rfl⟩;have L9 : Hid (Blk u9 (n + 1 + 1 + 1 + 1 + 1 + 1 + 1 + 1) #[.slice (some ⟨n + 1 + 1 + 1 + 1 + 1 + 1 + 1, 0, none⟩) 1 1] 43 /\ u9.heap.size = n + 1 + 1 + 1 + 1 + 1 + 1 + 1 + 1 + 1 /\ More u8 u9) := by rw [Hu9.out]; exact J2e L8.out.2.1 _ _
      go_wp2_with (fail)
      try simp only [hn]
      rw [<- Hu1.out, <- Hu2.out, <- Hu3.out, <- Hu4.out, <- Hu5.out, <- Hu6.out, <- Hu7.out, <- Hu8.out, <- Hu9.out];have K1 : Hid (Blk u9 (n) #[V 0, .bool false] 40) := L1.out.1.more ((((((((L2.out.2.2).trans L3.out.2.2).trans L4.out.2.2).trans L5.out.2.2).trans L6.out.2.2).trans L7.out.2.2).trans L8.out.2.2).trans L9.out.2.2);have K2 : Hid (Blk u9 (n + 1) #[V 5, V 0, V 0, V 0, V 0, V 8, V 0, V 1, V 1, V 2, V 9, V 0, V 0, V 0, V 0] 42) := L2.out.1.more (((((((L3.out.2.2).trans L4.out.2.2).trans L5.out.2.2).trans L6.out.2.2).trans L7.out.2.2).trans L8.out.2.2).trans L9.out.2.2);have K3 : Hid (Blk u9 (n + 1 + 1) #[.slice (some ⟨n, 0, none⟩) 1 1, .slice (some ⟨n + 1, 0, none⟩) 3 3] 25) := L3.out.1.more ((((((L4.out.2.2).trans L5.out.2.2).trans L6.out.2.2).trans L7.out.2.2).trans L8.out.2.2).trans L9.out.2.2);have K4 : Hid (Blk u9 (n + 1 + 1 + 1) #[V 5, V 0, V 0, V 0, V 0, V 8, V 0, V 1, V 1, V 3, V 12, V 0, V 0, V 0, V 0, V 9, V 0, V 0, V 0, V 0] 42) := L4.out.1.more (((((L5.out.2.2).trans L6.out.2.2).trans L7.out.2.2).trans L8.out.2.2).trans L9.out.2.2);have K5 : Hid (Blk u9 (n + 1 + 1 + 1 + 1) #[.slice (some ⟨n, 0, none⟩) 1 1, .slice (some ⟨n + 1 + 1 + 1, 0, none⟩) 4 4] 25) := L5.out.1.more ((((L6.out.2.2).trans L7.out.2.2).trans L8.out.2.2).trans L9.out.2.2);have K6 : Hid (Blk u9 (n + 1 + 1 + 1 + 1 + 1) #[V 0] 2) := L6.out.1.more (((L7.out.2.2).trans L8.out.2.2).trans L9.out.2.2)
      have K7 : Hid (Blk u9 (n + 1 + 1 + 1 + 1 + 1 + 1) #[.slice (some ⟨n + 1 + 1 + 1 + 1 + 1, 0, none⟩) 1 1] 43) := L7.out.1.more ((L8.out.2.2).trans L9.out.2.2);have K8 : Hid (Blk u9 (n + 1 + 1 + 1 + 1 + 1 + 1 + 1) #[V 1] 2) := L8.out.1.more (L9.out.2.2);have K9 : Hid (Blk u9 (n + 1 + 1 + 1 + 1 + 1 + 1 + 1 + 1) #[.slice (some ⟨n + 1 + 1 + 1 + 1 + 1 + 1 + 1, 0, none⟩) 1 1] 43) := L9.out.1.more (More.refl _);have HMu : Hid (More w u9) := (HMb.out.trans L1.out.2.2).trans ((((((((L2.out.2.2).trans L3.out.2.2).trans L4.out.2.2).trans L5.out.2.2).trans L6.out.2.2).trans L7.out.2.2).trans L8.out.2.2).trans L9.out.2.2);refine (Jel HI.out K1.out K2.out K6.out K7.out K8.out K9.out).mono ?_;rintro e wd ⟨rfl, md⟩;have Hmd : Hid (More w wd) := HMu.out.trans md;have J1 : Hid (Blk wd n #[V 0, .bool false] 40) := K1.out.more md;have J4 : Hid (Blk wd (n + 1 + 1 + 1) #[V 5, V 0, V 0, V 0, V 0, V 8, V 0, V 1, V 1, V 3, V 12, V 0, V 0, V 0, V 0, V 9, V 0, V 0, V 0, V 0] 42) := K4.out.more md;have j0 : wd.cell? ⟨n + 1 + 1 + 1 + 1, 0, none⟩ = some (.slice (some ⟨n, 0, none⟩) 1 1) := (K5.out.more md).cell rfl;have j1 : wd.cell? ⟨n + 1 + 1 + 1 + 1, 1, none⟩ = some (.slice (some ⟨n + 1 + 1 + 1, 0, none⟩) 4 4) := (K5.out.more md).cell rfl;have zj := (K5.out.more md).lt;clear md Hu1 L1 K1 Hu2 L2 K2 Hu3 L3 K3 Hu4 L4 K4 Hu5 L5 K5 Hu6 L6 K6 Hu7 L7 K7 Hu8 L8 K8 Hu9 L9 K9 HMu;obtain ⟨r, hr⟩ : ∃ r, wd.heap.size = r := ⟨_, rfl⟩
      obtain ⟨v1, Hu1⟩ : ∃ w_ : World, Hid (w_ = wd.alloc (.cells #[V 0] 2)) := ⟨_, rfl⟩;have L1 : Hid (Blk v1 (r) #[V 0] 2 /\ v1.heap.size = r + 1 /\ More wd v1) := by rw [Hu1.out]; exact J2e hr _ _
      obtain ⟨v2, Hu2⟩ : ∃ w_ : World, Hid (w_ = v1.alloc (.cells #[.slice (some ⟨r, 0, none⟩) 1 1] 43)) := ⟨_, rfl⟩;have L2 : Hid (Blk v2 (r + 1) #[.slice (some ⟨r, 0, none⟩) 1 1] 43 /\ v2.heap.size = r + 1 + 1 /\ More v1 v2) := by rw [Hu2.out]; exact J2e L1.out.2.1 _ _
      obtain ⟨v3, Hu3⟩ : ∃ w_ : World, Hid (w_ = v2.alloc (.cells #[V 1] 2)) := ⟨_, rfl⟩;have L3 : Hid (Blk v3 (r + 1 + 1) #[V 1] 2 /\ v3.heap.size = r + 1 + 1 + 1 /\ More v2 v3) := by rw [Hu3.out]; exact J2e L2.out.2.1 _ _
      obtain ⟨v4, Hu4⟩ : ∃ w_ : World, Hid (w_ = v3.alloc (.cells #[.slice (some ⟨r + 1 + 1, 0, none⟩) 1 1] 43)) := ⟨_, rfl⟩;have L4 : Hid (Blk v4 (r + 1 + 1 + 1) #[.slice (some ⟨r + 1 + 1, 0, none⟩) 1 1] 43 /\ v4.heap.size = r + 1 + 1 + 1 + 1 /\ More v3 v4) := by rw [Hu4.out]; exact J2e L3.out.2.1 _ _
      go_wp2_with (fail)
      try simp only [hr]
      rw [<- Hu1.out, <- Hu2.out, <- Hu3.out, <- Hu4.out];have K1 : Hid (Blk v4 (r) #[V 0] 2) := L1.out.1.more (((L2.out.2.2).trans L3.out.2.2).trans L4.out.2.2);have K2 : Hid (Blk v4 (r + 1) #[.slice (some ⟨r, 0, none⟩) 1 1] 43) := L2.out.1.more ((L3.out.2.2).trans L4.out.2.2);have K3 : Hid (Blk v4 (r + 1 + 1) #[V 1] 2) := L3.out.1.more (L4.out.2.2);have K4 : Hid (Blk v4 (r + 1 + 1 + 1) #[.slice (some ⟨r + 1 + 1, 0, none⟩) 1 1] 43) := L4.out.1.more (More.refl _);have Hmv : Hid (More wd v4) := L1.out.2.2.trans (((L2.out.2.2).trans L3.out.2.2).trans L4.out.2.2);refine (Jem HI.out (J1.out.more Hmv.out) (J4.out.more Hmv.out) K1.out K2.out K3.out K4.out).mono ?_;rintro e wz ⟨rfl, mz⟩;have Hend : Hid (P (.returned (.bool true)) wz) := HP.out _ ((Hmd.out.trans Hmv.out).trans mz);clear mz j0 j1 zj;go_wp2;exact Hend.out
     ·have D : Hid (∀ w1 : World, More w w1 -> Calls Tryz.prog 7 #[sv] w1 fun e w' => e = .returned (.bool false) /\ More w1 w') := CS.out false ⟨fun q => absurd q (by simp), fun q => absurd q hS⟩
      clear CS CK CL CH;go_wp2_with (fail)
      refine (D.out _ Hm4.out).mono ?_;rintro e w5 ⟨rfl, m_⟩;have Hend : Hid (P (.returned (.bool true)) w5) := HP.out _ (Hm4.out.trans m_);clear m_ D;go_wp2;exact Hend.out
    ·have D : Hid (∀ w1 : World, More w w1 -> Calls Tryz.prog 6 #[.agg #[.slice ra rl rc, .slice ca cl cc], mv, nv] w1 fun e w' => e = .returned (.bool false) /\ More w1 w') := CU.out HO.out.1 hA hB false ⟨fun q => absurd q (by simp), fun q => absurd q hU⟩
     clear CU CS CK CL CH;go_wp2_with (fail)
     refine (D.out _ Hm3.out).mono ?_;rintro e w4 ⟨rfl, m_⟩;have Hend : Hid (P (.returned (.bool true)) w4) := HP.out _ (Hm3.out.trans m_);clear m_ D;go_wp2;exact Hend.out
   ·have D : Hid (∀ w1 : World, More w w1 -> Calls Tryz.prog 5 #[.agg #[.slice ra rl rc, .slice ca cl cc], nv] w1 fun e w' => e = .returned (.bool false) /\ More w1 w') := CG.out false ⟨fun q => absurd q (by simp), fun q => absurd q hB⟩
    clear CG CU CS CK CL CH;go_wp2_with (fail)
    refine (D.out _ Hm2.out).mono ?_;rintro e w3 ⟨rfl, m_⟩;have Hend : Hid (P (.returned (.bool true)) w3) := HP.out _ (Hm2.out.trans m_);clear m_ D;go_wp2;exact Hend.out
  ·have D : Hid (∀ w1 : World, More w w1 -> Calls Tryz.prog 5 #[.agg #[.slice ra rl rc, .slice ca cl cc], mv] w1 fun e w' => e = .returned (.bool false) /\ More w1 w') := CF.out false ⟨fun q => absurd q (by simp), fun q => absurd q hA⟩
   clear CF CG CU CS CK CL CH;go_wp2_with (fail)
   refine (D.out _ (Hm1.out.alloc _ _)).mono ?_;rintro e w2 ⟨rfl, m_⟩;have Hend : Hid (P (.returned (.bool true)) w2) := HP.out _ ((Hm1.out.alloc _ _).trans m_);clear m_ D;go_wp2;exact Hend.out
 ·have e0 : (f1 == 0) = false := by simp [h0]
  have e1 : (f1 != 0) = true := by simp [h0]
  have Hend : Hid (∀ w', More w1 w' -> P (.returned (.bool true)) w') := fun w' m' => HP.out _ (Hm1.out.trans m')
  clear h0 CF CG CU CS CK CL CH HT;go_wp2;exact Hend.out _ ((More.refl _).alloc _ _)
theorem Jgs {x y : List Se} {k : Nat} (h : ∀ j, j < k -> x[j]? = y[j]?) (hx : x.length <= k) (hy : y.length <= k) : x = y := by
 apply List.ext_getElem?;intro j;by_cases c : j < k
 ·exact h j c
 ·rw [List.getElem?_eq_none (by omega), List.getElem?_eq_none (by omega)]

theorem J9j (X Y : List Se) (xa ya : Option Addr) (xn yn xc yc : Nat) (w : World) (hX : SeenAt w (.slice xa xn xc) X) (hY : SeenAt w (.slice ya yn yc) Y) :
  Calls Tryz.prog 23 #[.agg #[.slice xa xn xc, .slice ya yn yc]] w fun e w' => ∃ k is, e = .returned (.tuple #[V k, .bool is]) /\ Diff X Y k is /\ More w w' := by
 suffices hP : ∀ P : Ending -> World -> Prop, (∀ k is w', Diff X Y k is -> More w w' -> P (.returned (.tuple #[V k, .bool is])) w') -> Calls Tryz.prog 23 #[.agg #[.slice xa xn xc, .slice ya yn yc]] w P from hP _ (fun k is w' h1 h2 => ⟨k, is, rfl, h1, h2⟩)
 intro P hP0;have HP : Hid (∀ k is w', Diff X Y k is -> More w w' -> P (.returned (.tuple #[V k, .bool is])) w') := hP0;obtain ⟨xa0, xb, xo, xc0, ex, hxa, hXs, hXl⟩ := hX;obtain ⟨ya0, yb, yo, yc0, ey, hya, hYs, hYl⟩ := hY;obtain ⟨rfl, rfl, rfl⟩ : xa = xa0 /\ xn = X.length /\ xc = xc0 := by simpa using ex
 obtain ⟨rfl, rfl, rfl⟩ : ya = ya0 /\ yn = Y.length /\ yc = yc0 := by simpa using ey
 obtain ⟨xn, Hxn⟩ : ∃ x, Hid (X.length = x) := ⟨_, rfl⟩;obtain ⟨yn, Hyn⟩ : ∃ x, Hid (Y.length = x) := ⟨_, rfl⟩;rw [Hxn.out] at hxa hXl |-;rw [Hyn.out] at hya hYl |-;have HS6 : Hid ((0 < xn -> xa = some ⟨xb, xo, none⟩) /\ SeesAt w xb xo X /\ (0 < yn -> ya = some ⟨yb, yo, none⟩) /\ SeesAt w yb yo Y /\ xn < 4611686018427387904 /\ yn < 4611686018427387904) := ⟨hxa, hXs, hya, hYs, hXl, hYl⟩;obtain ⟨bn, hbx, hby, hmin⟩ : ∃ bn : Nat, bn <= xn /\ bn <= yn /\ (bn = xn \/ bn = yn) := ⟨min xn yn, by omega, by omega, by omega⟩;have Hb : Hid (bn <= xn /\ bn <= yn /\ (bn = xn \/ bn = yn)) := ⟨hbx, hby, hmin⟩;clear ex ey hxa hXs hXl hya hYs hYl hbx hby hmin hP0;go_enter Tryz.func23, Tryz.ntmps23;obtain ⟨w1, Hw1⟩ : ∃ w_ : World, Hid (w_ = w.alloc (.cells #[.slice xa xn xc, .slice ya yn yc] 64)) := ⟨_, rfl⟩;have Hm1 : Hid (More w w1) := Hw1.out ▸ (More.refl _).alloc _ _;have Hb1 : Hid (Blk w1 w.heap.size #[.slice xa xn xc, .slice ya yn yc] 64) := Hw1.out ▸ Blk.last _ _ _;obtain ⟨S, HS⟩ : ∃ S : World -> Prop, Hid (∀ w', S w' ↔ More w1 w') := ⟨fun w' => More w1 w', fun _ => Iff.rfl⟩;have k0 : ∀ i : { w' // S w' }, i.val.cell? ⟨w.heap.size, 0, none⟩ = some (.slice xa xn xc) := fun i => (Hb1.out.more ((HS.out _).1 i.property)).cell rfl
 have k1 : ∀ i : { w' // S w' }, i.val.cell? ⟨w.heap.size, 1, none⟩ = some (.slice ya yn yc) := fun i => (Hb1.out.more ((HS.out _).1 i.property)).cell rfl
 have hne : Nonempty { w' // S w' } := ⟨⟨w1, (HS.out _).2 (More.refl _)⟩⟩;go_wp2_with (fail)
 rw [<- Hw1.out];refine J03 (S := S) [(0, true), (1, true), (2, true), (3, true), (4, true), (5, true)] (by kernel_rfl) (by kernel_rfl) (by kernel_rfl) ((HS.out _).2 (More.refl _).drew) ?_
 iterate 6 (refine J00 rfl (by kernel_rfl) (fun K hK => ?_); go_simp; refine hK _ _ ?_; clear hK K)
 refine J04 ?_;clear k0 k1 hne HS S
 have hcase : (yn < xn /\ Hid ((yn : Int) = (bn : Int)) /\ min (xn : Int) (yn : Int) = (bn : Int)) \/ (¬ yn < xn /\ Hid ((xn : Int) = (bn : Int)) /\ min (xn : Int) (yn : Int) = (bn : Int)) := by
  have hb := Hb.out;by_cases c : yn < xn
  ·exact .inl ⟨c, show (yn : Int) = (bn : Int) by omega, by omega⟩
  ·exact .inr ⟨c, show (xn : Int) = (bn : Int) by omega, by omega⟩
 rcases hcase with ⟨hyx, he, hmn⟩ | ⟨hyx, he, hmn⟩
 all_goals
  go_wp2;rw [he.out];clear he hyx hmn;go_loopg [18] bn (fun g iv wr => ∃ k : Nat, k + g = bn /\ iv = V k /\ Hid (More w wr /\ ∀ j, j < k -> X[j]? = Y[j]?))
  case atStart => exact ⟨0, by omega, rfl, Hm1.out.drew, fun j hj => absurd hj (Nat.not_lt_zero _)⟩
  case round =>
   obtain ⟨k, hkg, rfl, Hr⟩ := hrel;cases gk with
   | zero =>
    obtain rfl : k = bn := by omega
    have d0 : decide ((k : Int) < (k : Int)) = false := by simp
    by_cases hl : xn = yn
    ·have hkx : xn = k := by have := Hb.out; omega
     have e0 : ((xn : Int) == (yn : Int)) = true := by simp [hl]
     have e1 : ((xn : Int) != (yn : Int)) = false := by simp [hl]
     have Hend : Hid (P (.returned (.tuple #[V 0, .bool false])) wr) := HP.out 0 false wr (.inl ⟨Jgs Hr.out.2 (by rw [Hxn.out]; omega) (by rw [Hyn.out]; omega), rfl, rfl⟩) Hr.out.1;clear HP hkx;go_wp2;exact Hend.out
    ·have e0 : ((xn : Int) == (yn : Int)) = false := by simp; omega
     have e1 : ((xn : Int) != (yn : Int)) = true := by simp; omega
     have hk : k <= xn /\ k <= yn /\ (k = xn \/ k = yn) := Hb.out
     have Hend : Hid (P (.returned (.tuple #[V k, .bool true])) wr) := HP.out k true wr (.inr ⟨k, rfl, rfl, Hr.out.2, by
      rcases hk with ⟨a1, a2, rfl | rfl⟩
      ·rw [List.getElem?_eq_none (by rw [Hxn.out]; exact Nat.le_refl _), List.getElem?_eq_getElem (by rw [Hyn.out]; omega)]; simp
      ·rw [List.getElem?_eq_getElem (by rw [Hxn.out]; omega), List.getElem?_eq_none (by rw [Hyn.out]; exact Nat.le_refl _)]; simp⟩) Hr.out.1
     clear HP hk;go_wp2;exact Hend.out
   | succ g =>
    have hk : k < bn := by omega
    have hki : (k : Int) < (bn : Int) := by omega
    have hkx : k < xn := by have := Hb.out; omega
    have hky : k < yn := by have := Hb.out; omega
    have hkxi : (k : Int) < (xn : Int) := by omega
    have hkyi : (k : Int) < (yn : Int) := by omega
    have hk0 : (0 : Int) <= (k : Int) := by omega
    have hk63 : wrap64 ((k : Int) + 1) = (k : Int) + 1 := by have := HS6.out.2.2.2.2.1; unfold wrap64; omega
    obtain rfl := HS6.out.1 (by omega);obtain rfl := HS6.out.2.2.1 (by omega);obtain ⟨s, Hs⟩ : ∃ s, Hid (X[k]? = some s) := ⟨_, List.getElem?_eq_getElem (by rw [Hxn.out]; exact hkx)⟩;obtain ⟨t, Ht⟩ : ∃ s, Hid (Y[k]? = some s) := ⟨_, List.getElem?_eq_getElem (by rw [Hyn.out]; exact hky)⟩;have q1 := (HS6.out.2.1.more Hr.out.1) k s Hs.out;have q2 := (HS6.out.2.2.2.1.more Hr.out.1) k t Ht.out;obtain ⟨s1, s2, s3⟩ := s;obtain ⟨t1, t2, t3⟩ := t;dsimp only at q1 q2;obtain ⟨S, HS⟩ : ∃ S : World -> Prop, Hid (∀ w', S w' ↔ More wr w') := ⟨fun w' => More wr w', fun _ => Iff.rfl⟩;have HS0 : S wr.drew := (HS.out _).2 (More.refl _).drew;have hne : Nonempty { w' // S w' } := ⟨⟨_, HS0⟩⟩;have j0 : ∀ i : { w' // S w' }, i.val.cell? ⟨xb, xo + k * 3, none⟩ = some (V s1) := fun i => ((HS.out _).1 i.property).cell q1.1
    have j1 : ∀ i : { w' // S w' }, i.val.cell? ⟨xb, xo + k * 3 + 1, none⟩ = some (V s2) := fun i => ((HS.out _).1 i.property).cell q1.2.1
    have j2 : ∀ i : { w' // S w' }, i.val.cell? ⟨xb, xo + k * 3 + 2, none⟩ = some (V s3) := fun i => ((HS.out _).1 i.property).cell q1.2.2
    have j3 : ∀ i : { w' // S w' }, i.val.cell? ⟨yb, yo + k * 3, none⟩ = some (V t1) := fun i => ((HS.out _).1 i.property).cell q2.1
    have j4 : ∀ i : { w' // S w' }, i.val.cell? ⟨yb, yo + k * 3 + 1, none⟩ = some (V t2) := fun i => ((HS.out _).1 i.property).cell q2.2.1
    have j5 : ∀ i : { w' // S w' }, i.val.cell? ⟨yb, yo + k * 3 + 2, none⟩ = some (V t3) := fun i => ((HS.out _).1 i.property).cell q2.2.2
    obtain ⟨wd, Hwd⟩ : ∃ w_ : World, Hid (w_ = wr.drew) := ⟨_, rfl⟩;have Hmd : Hid (More w wd) := Hwd.out ▸ Hr.out.1.drew;clear q1 q2;go_wp2_with (fail)
    refine J03 (S := S) [(0, true), (1, true), (2, true), (3, true), (4, true), (5, true), (6, true), (7, true), (8, true)] (by kernel_rfl) (by kernel_rfl) (by kernel_rfl) HS0 ?_;rw [<- Hwd.out]
    iterate 8 (refine J00 rfl (by kernel_rfl) (fun K hK => ?_); go_simp; refine hK _ _ ?_; clear hK K)
    by_cases hst : s1 = t1 /\ s2 = t2 /\ s3 = t3
    ·obtain ⟨rfl, rfl, rfl⟩ := hst
     refine J00 rfl (by kernel_rfl) (fun K hK => ?_); go_simp; refine hK _ _ ?_; clear hK K;refine J04 ?_
     have Hn : Hid (More w wd /\ ∀ j, j < k + 1 -> X[j]? = Y[j]?) := ⟨Hmd.out, fun j hj => by
      by_cases c : j = k
      ·subst c; rw [Hs.out, Ht.out]
      ·exact Hr.out.2 j (by omega)⟩
     clear hne HS0 j0 j1 j2 j3 j4 j5 HP;go_wp2;go_roundg g
     case measure => omega
     case rel => exact ⟨k + 1, by omega, by first | rfl | simp [hk63], Hn.out⟩
    ·have Hend : Hid (P (.returned (.tuple #[V k, .bool true])) wd) := HP.out k true wd (.inr ⟨k, rfl, rfl, Hr.out.2, by rw [Hs.out, Ht.out]; intro e; simp at e; exact hst e⟩) Hmd.out
     have h3 : ¬ s1 = t1 \/ (s1 = t1 /\ ¬ s2 = t2) \/ (s1 = t1 /\ s2 = t2 /\ ¬ s3 = t3) := by
      by_cases a1 : s1 = t1
      ·by_cases a2 : s2 = t2
       ·exact .inr (.inr ⟨a1, a2, fun a3 => hst ⟨a1, a2, a3⟩⟩)
       ·exact .inr (.inl ⟨a1, a2⟩)
      ·exact .inl a1
     clear HP hst Hs Ht;rcases h3 with a1 | ⟨rfl, a2⟩ | ⟨rfl, rfl, a3⟩
     all_goals
      refine J00 rfl (by kernel_rfl) (fun K hK => ?_); go_simp; refine hK _ _ ?_; clear hK K;refine J04 ?_;clear hne HS0 j0 j1 j2 j3 j4 j5;go_wp2;exact Hend.out
end
section
open Go.RowKit
set_option linter.unusedVariables false
def Wr (w : World) (b o : Nat) (v : Value) : Prop := w.cell? ⟨b, o, none⟩ = some v /\ w.frozen? ⟨b, o, none⟩ = false
theorem Wr.kept {w w' : World} {row : Option Nat} (hg : w.grownBy w' row) {b o : Nat} {v : Value} (h : Wr w b o v) (hne : some b ≠ row) : Wr w' b o v :=
 ⟨hg.cell h.1 hne, (Jat hg h.1 hne).trans h.2⟩
theorem Wr.same {w : World} {b o : Nat} {v : Value} (h : Wr w b o v) (u : Value) : Wr (w.setCell ⟨b, o, none⟩ u) b o u :=
 ⟨World.cell?_setCell_same _ _ _ h.1, by rw [World.frozen?_setCell]; exact h.2⟩
theorem Wr.other {w : World} {b o : Nat} {v : Value} (h : Wr w b o v) (b' o' : Nat) (u : Value) (hne : b' ≠ b \/ o' ≠ o) : Wr (w.setCell ⟨b', o', none⟩ u) b o v :=
 ⟨by rw [World.cell?_setCell_other _ _ _ _ (by intro e; simp only [Addr.mk.injEq] at e; omega)]; exact h.1, by rw [World.frozen?_setCell]; exact h.2⟩

section
variable {w wr w' : World} {rv cv : Value} {B : Nat} {s : St} {k : Nat} {sv mv : Value} {mb mc : Nat} {G C : Nat -> Nat}

end
end
section
open Go.RowKit
set_option linter.unusedSimpArgs false
set_option linter.unusedVariables false
theorem J3q {P : Program} {w : World} (base : Nat) (t ty e : TypeId) (i : TypeInfo) (size : Nat) (ht : P.underlying t = some (.slice e)) (hi : P.info? e = some i)
  (v : Value) (n : Nat) (xs : List Value) (hown : w.ownsRow base e size v n xs) (ad : Option Addr) (c : Nat) :
  (Builtin.append_ #[t, t] ty #[v, .slice ad 0 c]).run P w = .ok v w := by
 have hl : ∀ a : Addr, (loadCells a 0).run P w = .ok #[] w := fun a => rfl
 rcases hown.2 with ⟨rfl, rfl⟩ | ⟨g, cap, cur, rfl, _, _, hnc, _⟩
 ·cases ad <;> simp [Builtin.append_, run_underlying ht, sizeOf, typeInfo, hi, Builtin.lenOf, Builtin.firstCells, hl]
 ·cases ad <;> simp [Builtin.append_, run_underlying ht, sizeOf, typeInfo, hi, Builtin.lenOf, Builtin.firstCells, hnc, storeCells, hl]

theorem J92 {P : Program} {o : Oper} {a : Act} (w : World) {K : Act -> World -> Prop} {Q : Exit -> Act -> World -> Prop} (s x : Operand) (t : TypeId)
  (ho : o.op = .call { callee := .builtin .append, args := #[s, x], argTypes := #[t, t] })
  (base : Nat) (e : TypeId) (i : TypeInfo) (z : Value) (size bytes : Nat) (ht : P.underlying t = some (.slice e)) (hi : P.info? e = some i) (hz : i.zero = some z)
  (hsize : i.size = size) (hby : i.bytes = bytes) (hzs : z.cells.size = size) (hsz : 0 < size)
  (v : Value) (n : Nat) (xs : List Value) (hs : a.eval s = v) (hown : w.ownsRow base e size v n xs)
  (ad : Option Addr) (m c : Nat) (news : List Value) (hx : a.eval x = .slice ad m c) (hl : news.length = m * size) (hnews : 0 < m -> ∃ ad', ad = some ad' /\ ∀ j u, news[j]? = some u -> w.cell? (ad'.add j) = some u) (h1 : ∀ u ∈ news, u.oneCell' = true)
  (h63 : n + m <= maxLen) (hbytes : (n + m) * bytes <= 140737488355328) (hbase : base <= w.heap.size)
  (h : ∀ va cap w', w'.ownsRow base e size (.slice va (n + m) cap) (n + m) (xs ++ news) -> w.grownBy w' v.ownBlock -> (∀ b, (Value.slice va (n + m) cap).ownBlock = some b -> v.ownBlock = some b \/ b = w.heap.size) -> (v.ownBlock ≠ none -> va ≠ none) -> K (a.put o.dst (.slice va (n + m) cap)) w') : o.wp P a w K Q := by
 by_cases hm : 0 < m
 ·obtain ⟨ad', rfl, hn2⟩ := hnews hm
  refine wp_append_lies w s x t ho base e i z size bytes ht hi hz hsize hby hzs hsz v n xs hs hown ad' m c news hx hl hn2 h1 hm h63 hbytes hbase w.heap.size rfl (fun g cap w' h2 h3 h4 h5 => h _ _ _ h2 h3 (fun b hb => ?_) (fun _ => by simp));have : b = g := by simpa [Value.ownBlock] using hb.symm
  subst this;exact h4
 ·obtain rfl : m = 0 := by omega
  have hnl : news = [] := List.eq_nil_of_length_eq_zero (by rw [hl]; omega);subst hnl;have hrun := J3q (P := P) (w := w) base t o.type e i size ht hi v n xs hown ad c;obtain ⟨va, cap, rfl⟩ := J8r hown;unfold Oper.wp;simp [execOp, ho, resolve, invoke, builtin, hs, hx, hrun, Result.andThen];exact h va cap w (by simpa using hown) (J1l _ _) (fun b hb => .inl hb) (fun h1 h2 => h1 (by rw [h2]; rfl))
theorem J5i {P : Program} {ops : Array Oper} {rest : List Oper} {o : Oper} {a : Act} (w : World) {Q : Exit -> Act -> World -> Prop} (hgd : o.guard = none) (s x : Operand) (t : TypeId)
  (ho : o.op = .call { callee := .builtin .append, args := #[s, x], argTypes := #[t, t] })
  (base : Nat) (e : TypeId) (i : TypeInfo) (z : Value) (size bytes : Nat) (ht : P.underlying t = some (.slice e)) (hi : P.info? e = some i) (hz : i.zero = some z)
  (hsize : i.size = size) (hby : i.bytes = bytes) (hzs : z.cells.size = size) (hsz : 0 < size)
  (v : Value) (n : Nat) (xs : List Value) (hs : a.eval s = v) (hown : w.ownsRow base e size v n xs)
  (ad : Option Addr) (m c : Nat) (news : List Value) (hx : a.eval x = .slice ad m c) (hl : news.length = m * size) (hnews : 0 < m -> ∃ ad', ad = some ad' /\ ∀ j u, news[j]? = some u -> w.cell? (ad'.add j) = some u) (h1 : ∀ u ∈ news, u.oneCell' = true)
  (h63 : n + m <= maxLen) (hbytes : (n + m) * bytes <= 140737488355328) (hbase : base <= w.heap.size)
  (h : ∀ va cap w', w'.ownsRow base e size (.slice va (n + m) cap) (n + m) (xs ++ news) -> w.grownBy w' v.ownBlock -> (∀ b, (Value.slice va (n + m) cap).ownBlock = some b -> v.ownBlock = some b \/ b = w.heap.size) -> (v.ownBlock ≠ none -> va ≠ none) -> wpList P ops Q rest (a.put o.dst (.slice va (n + m) cap)) w') : wpList P ops Q (o :: rest) a w :=
 wpList_plain hgd fun _ hK => J92 w s x t ho base e i z size bytes ht hi hz hsize hby hzs hsz v n xs hs hown ad m c news hx hl hnews h1 h63 hbytes hbase fun va cap w' h2 h3 h4 h5 => hK _ _ (h va cap w' h2 h3 h4 h5)

structure PV where
 rg : Nat
 rc : Nat
 wg : Nat
 wa : Option Addr
 wc : Nat
 pg : Nat
 pa : Option Addr
 pc : Nat
 P : Nat -> Value
section
variable {w w' : World} {lo N K : Nat} {lab lab' : Nat -> Nat} {q : Pl} {a : PV}

end
theorem J85 (s : Sp) : s.leave.seen = s.seen := by unfold Sp.leave; split <;> rfl
def numS (p : Prg) (s : Sp) (i : Ins) : Int := wrap64 (baseI p.log i.c.toNat + idxI s.pl.r i)
def Sp.on (s : Sp) : Sp := (s.see ⟨1, s.pl.at_, 0⟩).go (s.pl.at_ + 1)

theorem J5g {p : Prg} {s : Sp} {i : Ins} (hI : p.ins s.pl.at_ = i) (h : i.op = 7) : stepS p s = ((s.see ⟨1, s.pl.at_, 0⟩).go i.n.toNat, false, none) := by
 subst hI; unfold stepS; rw [if_pos h]
theorem J8z {p : Prg} {s : Sp} {i : Ins} (hI : p.ins s.pl.at_ = i) (h : i.op = 8) (hh : Bool) (hhh : J0u i.c (s.pl.r i.a.toNat) (s.pl.r i.b.toNat) = hh) (right wrong : Nat) (hr : right = if hh = true then i.n.toNat else s.pl.at_ + 1) (hw : wrong = if hh = true then s.pl.at_ + 1 else i.n.toNat) :
  stepS p s = (if s.choice = 0 then { (s.see ⟨1, s.pl.at_, 0⟩).go right with script := s.script.tail } else ({ (s.see ⟨1, s.pl.at_, 0⟩).go right with script := s.script.tail }.leave).go wrong, false, none) := by
 subst hI;unfold stepS;rw [if_neg (by omega), if_pos h];cases hh with
 | true => rw [if_pos hhh]; subst hr hw; rfl
 | false => rw [if_neg (by rw [hhh]; decide)]; subst hr hw; rfl
theorem J5f {p : Prg} {s : Sp} {i : Ins} (hI : p.ins s.pl.at_ = i) (h : i.op = 9) (ha : s.ahead = false) : stepS p s = (s.see ⟨1, s.pl.at_, 0⟩, false, some (1, s.pl.r i.a.toNat)) := by
 subst hI; unfold stepS; rw [if_neg (by omega), if_neg (by omega), if_pos ⟨h, ha⟩]
theorem J2o {p : Prg} {s : Sp} {i : Ins} (hI : p.ins s.pl.at_ = i) (h : (i.op = 9 /\ s.ahead = true) \/ i.op = 12) : stepS p s = (s.on, true, none) := by
 subst hI;unfold stepS Sp.on;rw [if_neg (by omega), if_neg (by omega)]
 have h1 : ¬ ((p.ins s.pl.at_).op = 9 /\ s.ahead = false) := by
  rintro ⟨h1, h2⟩;rcases h with ⟨_, h3⟩ | h3
  ·rw [h2] at h3; cases h3
  ·omega
 rw [if_neg h1, if_pos (by omega)]
theorem J3n {p : Prg} {s : Sp} {i : Ins} (hI : p.ins s.pl.at_ = i) (h : i.op = 3 \/ i.op = 4 \/ i.op = 5 \/ i.op = 6) (ha : s.ahead = false) (hx : idxI s.pl.r i < 0 \/ J0c (p.log i.c.toNat) <= idxI s.pl.r i) : stepS p s = (s.see ⟨1, s.pl.at_, 0⟩, false, some (2, 0)) := by
 subst hI
 have hp : 0 <= putI (p.ins s.pl.at_) := by
  rcases h with h | h | h | h
  ·rw [J38 (.inl h)]; decide
  ·rw [J48 (.inl h)]; decide
  ·rw [J38 (.inr h)]; decide
  ·rw [J48 (.inr h)]; decide
 unfold stepS;rw [if_neg (by omega), if_neg (by omega), if_neg (by omega), if_neg (by omega), if_pos hp, if_pos ⟨ha, hx⟩]
theorem J4c {p : Prg} {s : Sp} {i : Ins} (hI : p.ins s.pl.at_ = i) (h : i.op = 3 \/ i.op = 4 \/ i.op = 5 \/ i.op = 6) (hx : ¬ (s.ahead = false /\ (idxI s.pl.r i < 0 \/ J0c (p.log i.c.toNat) <= idxI s.pl.r i))) :
  stepS p s = (wordS p (s.on.see ⟨2, numS p s i, putI i⟩) i (numS p s i), false, none) := by
 subst hI
 have hp : 0 <= putI (p.ins s.pl.at_) := by
  rcases h with h | h | h | h
  ·rw [J38 (.inl h)]; decide
  ·rw [J48 (.inl h)]; decide
  ·rw [J38 (.inr h)]; decide
  ·rw [J48 (.inr h)]; decide
 unfold stepS;rw [if_neg (by omega), if_neg (by omega), if_neg (by omega), if_neg (by omega), if_pos hp, if_neg hx]
 rfl
theorem J5h {p : Prg} {s : Sp} {i : Ins} (hI : p.ins s.pl.at_ = i) (h3 : ¬ i.op = 3) (h4 : ¬ i.op = 4) (h5 : ¬ i.op = 5) (h6 : ¬ i.op = 6) (h7 : ¬ i.op = 7) (h8 : ¬ i.op = 8) (h9 : ¬ i.op = 9) (h12 : ¬ i.op = 12) :
  stepS p s = ({ s.on with pl := { s.on.pl with r := (regsI s.pl.r i).1 }, seen := s.on.seen ++ (regsI s.pl.r i).2 }, false, none) := by
 subst hI;have hp := Jff h3 h4 h5 h6;unfold stepS;rw [if_neg h7, if_neg h8, if_neg (by omega), if_neg (by omega), if_neg (by rw [hp]; decide)]
 rfl

structure PlOk (p : Prg) (k : Nat) (q : Pl) : Prop where
 at_ : q.at_ <= p.cl
 r : ∀ j, j < 10 -> B64 (q.r j)
 wd : ∀ j : Nat, (j : Int) < allI p -> B64 (q.wd j)
 past : ∀ j, (q.past j).length <= k
 was : ∀ j : Nat, (j : Int) < allI p -> ∀ v ∈ q.past j, B64 v
structure InvS (p : Prg) (k n : Nat) (s : Sp) : Prop where
 pl : PlOk p k s.pl
 back : s.ahead = true -> PlOk p k s.back
 seen : s.seen.length <= n
 sc : ∀ c ∈ s.script, 0 <= c

theorem PlOk.mono {p : Prg} {k k' : Nat} {q : Pl} (h : PlOk p k q) (hk : k <= k') : PlOk p k' q := ⟨h.at_, h.r, h.wd, fun j => Nat.le_trans (h.past j) hk, h.was⟩
theorem PlOk.go {p : Prg} {k : Nat} {q : Pl} (h : PlOk p k q) (n : Nat) (hn : n <= p.cl) : PlOk p k { q with at_ := n } := ⟨hn, h.r, h.wd, h.past, h.was⟩
theorem PlOk.reg {p : Prg} {k : Nat} {q : Pl} (h : PlOk p k q) (a v : Int) (hv : B64 v) : PlOk p k { q with r := setR q.r a v } := ⟨h.at_, J4b h.r a v hv, h.wd, h.past, h.was⟩
theorem InvS.mono {p : Prg} {k k' n n' : Nat} {s : Sp} (h : InvS p k n s) (hk : k <= k') (hn : n <= n') : InvS p k' n' s := ⟨h.pl.mono hk, fun a => (h.back a).mono hk, Nat.le_trans h.seen hn, h.sc⟩
theorem InvS.see {p : Prg} {k n : Nat} {s : Sp} (h : InvS p k n s) (x : Se) : InvS p k (n + 1) (s.see x) := ⟨h.pl, h.back, by have := h.seen; simp [Sp.see]; omega, h.sc⟩
theorem InvS.go {p : Prg} {k n : Nat} {s : Sp} (h : InvS p k n s) (m : Nat) (hm : m <= p.cl) : InvS p k n (s.go m) := ⟨h.pl.go m hm, h.back, h.seen, h.sc⟩
theorem InvS.reg {p : Prg} {k n : Nat} {s : Sp} (h : InvS p k n s) (a v : Int) (hv : B64 v) : InvS p k n (s.reg a v) := ⟨h.pl.reg a v hv, h.back, h.seen, h.sc⟩
theorem InvS.tail {p : Prg} {k n : Nat} {s : Sp} (h : InvS p k n s) : InvS p k n { s with script := s.script.tail } := ⟨h.pl, h.back, h.seen, fun c hc => h.sc c (List.mem_of_mem_tail hc)⟩
theorem InvS.leave {p : Prg} {k n : Nat} {s : Sp} (h : InvS p k n s) : InvS p k n s.leave := by
 unfold Sp.leave
 split
 ·exact h
 ·exact ⟨h.pl, fun _ => h.pl, h.seen, h.sc⟩
theorem InvS.returns {p : Prg} {k n : Nat} {s : Sp} (h : InvS p k n s) (ha : s.ahead = true) : InvS p k (n + 1) s.returns := ⟨h.back ha, fun a => by simp [Sp.returns] at a, by have := h.seen; simp [Sp.returns]; omega, h.sc⟩
theorem InvS.noneLeft {p : Prg} {k n : Nat} {s : Sp} (h : InvS p k n s) (cl : Nat) : InvS p k (n + 1) (s.noneLeft cl) := by
 unfold Sp.noneLeft
 split
 ·rename_i hc; exact h.returns hc.2
 ·exact h.mono (Nat.le_refl _) (Nat.le_succ _)
theorem InvS.after {p : Prg} {k n : Nat} {s : Sp} (h : InvS p k n s) (over : Bool) : InvS p k (n + 1) (s.after over) := by
 unfold Sp.after
 split
 ·rename_i ha
  have h2 : InvS p k n { s with since := s.since + 1 } := ⟨h.pl, h.back, h.seen, h.sc⟩
  split
  ·exact h2.returns ha
  ·exact h2.mono (Nat.le_refl _) (Nat.le_succ _)
 ·exact h.mono (Nat.le_refl _) (Nat.le_succ _)
theorem InvS.word {p : Prg} {k n : Nat} {s : Sp} (h : InvS p k n s) (i : Ins) (m : Int) (hop : i.op = 3 \/ i.op = 4 \/ i.op = 5 \/ i.op = 6) (ha : i.a.toNat < 10) : InvS p (k + 1) n (wordS p s i m) := by
 have h1 : InvS p (k + 1) n s := h.mono (Nat.le_succ _) (Nat.le_refl _);unfold wordS;by_cases hm : m < 0 \/ allI p <= m
 ·rw [if_pos hm]
  split
  ·exact h1.reg _ _ J1i
  ·exact h1
 rw [if_neg hm];by_cases hp : putI i = 1
 ·rw [if_pos hp]
  refine ⟨⟨h.pl.at_, h.pl.r, fun j hj => ?_, fun j => ?_, fun j hj v hv => ?_⟩, h1.back, h.seen, h.sc⟩
  ·dsimp only [setF]
   split
   ·exact h.pl.r _ ha
   ·exact h.pl.wd j hj
  ·dsimp only [setF]
   have := h.pl.past j
   split
   ·rename_i e; subst e; simp; exact h.pl.past _
   ·omega
  ·dsimp only [setF] at hv
   split at hv
   ·rename_i e
    subst e;rcases List.mem_append.1 hv with hv | hv
    ·exact h.pl.was _ hj v hv
    ·rw [List.mem_singleton.1 hv]; exact h.pl.wd _ hj
   ·exact h.pl.was j hj v hv
 rw [if_neg hp];have hm2 : ((m.toNat : Nat) : Int) < allI p := by omega
 have h2 : InvS p (k + 1) n ({ s with script := s.script.tail }.reg i.a (s.pl.wd m.toNat)) := (h1.tail).reg _ _ (h.pl.wd _ hm2)
 split
 ·refine h2.leave.reg _ _ ?_
  rw [List.getD_eq_getElem?_getD];cases hq : (s.pl.past m.toNat)[(s.pl.past m.toNat).length - s.choice.toNat]? with
  | none => exact J1i
  | some v => exact h.pl.was _ hm2 v (List.mem_of_getElem? hq)
 ·exact h2

theorem InvS.step {p : Prg} {k n : Nat} {s : Sp} (h : InvS p k n s) (hat : s.pl.at_ < p.cl) (hin : InsOk p.rl p.log p.cl 10 (p.ins s.pl.at_)) (hn : B64 (p.ins s.pl.at_).n) : InvS p (k + 1) (n + 2) (stepS p s).1 := by
 obtain ⟨i, hI⟩ : ∃ i, p.ins s.pl.at_ = i := ⟨_, rfl⟩;rw [hI] at hin hn;have h1 : InvS p (k + 1) (n + 1) (s.see ⟨1, s.pl.at_, 0⟩) := (h.see _).mono (Nat.le_succ _) (Nat.le_refl _);have hon : InvS p k (n + 1) s.on := (h.see _).go _ hat;have hon1 : InvS p (k + 1) (n + 1) s.on := hon.mono (Nat.le_succ _) (Nat.le_refl _);by_cases h7 : i.op = 7
 ·rw [J5g hI h7]
  have : 0 <= i.n /\ i.n < p.cl := by unfold InsOk Plc at hin; simp [h7] at hin; exact hin.2.2.2
  exact (h1.go _ (by omega)).mono (Nat.le_refl _) (Nat.le_succ _)
 by_cases h8 : i.op = 8
 ·have hpl : 0 <= i.n /\ i.n < p.cl := by unfold InsOk Plc at hin; simp [h8] at hin; exact hin.2.2.2
  rw [J8z hI h8 _ rfl _ _ rfl rfl];have hb : ∀ b : Bool, (if b = true then i.n.toNat else s.pl.at_ + 1) <= p.cl /\ (if b = true then s.pl.at_ + 1 else i.n.toNat) <= p.cl := by intro b; cases b <;> simp <;> omega
  have hb2 := hb (J0u i.c (s.pl.r i.a.toNat) (s.pl.r i.b.toNat));have h2 := (h1.go _ hb2.1).tail;dsimp only
  split
  ·exact h2.mono (Nat.le_refl _) (Nat.le_succ _)
  ·exact (h2.leave.go _ hb2.2).mono (Nat.le_refl _) (Nat.le_succ _)
 by_cases h9 : i.op = 9
 ·cases ha : s.ahead with
  | false => rw [J5f hI h9 ha]; exact h1.mono (Nat.le_refl _) (Nat.le_succ _)
  | true => rw [J2o hI (.inl ⟨h9, ha⟩)]; exact hon1.mono (Nat.le_refl _) (Nat.le_succ _)
 by_cases h12 : i.op = 12
 ·rw [J2o hI (.inr h12)]; exact hon1.mono (Nat.le_refl _) (Nat.le_succ _)
 by_cases hw : i.op = 3 \/ i.op = 4 \/ i.op = 5 \/ i.op = 6
 ·have hra : i.a.toNat < 10 := by
   unfold InsOk Reg at hin;rcases hw with e | e | e | e <;> simp [e] at hin <;> omega
  by_cases hx : s.ahead = false /\ (idxI s.pl.r i < 0 \/ J0c (p.log i.c.toNat) <= idxI s.pl.r i)
  ·rw [J3n hI hw hx.1 hx.2]; exact h1.mono (Nat.le_refl _) (Nat.le_succ _)
  ·rw [J4c hI hw hx]
   exact (hon.see _).word i _ hw hra
 rw [J5h hI (by omega) (by omega) (by omega) (by omega) h7 h8 h9 h12];refine ⟨⟨hon1.pl.at_, Jfl h.pl.r i (fun e => ?_) hn, hon1.pl.wd, hon1.pl.past, hon1.pl.was⟩, hon1.back, ?_, hon1.sc⟩
 ·unfold InsOk Reg at hin
  simp [e] at hin;omega
 ·have := hon1.seen
  have := Jfn s.pl.r i
  simp
  omega
end
section
open Go.RowKit
set_option linter.unusedSimpArgs false
set_option linter.unusedVariables false
set_option maxRecDepth 8000
theorem J16 {w : World} {b : Nat} {o : Obj} (h : w.heap[b]? = some o) : b < w.heap.size := (Array.getElem?_eq_some_iff.1 h).1

theorem J0i {w w' : World} {M : Nat} (h : Below M w w') (j : Nat) (v : Value) : Below M w (w'.setCell ⟨M, j, none⟩ v) := Below.setCell h (Nat.le_refl _) v

theorem J07 {w w' : World} {M : Nat} (h : Below M w w') (hM : M <= w'.heap.size) (o : Obj) : Below M w (w'.alloc o) := Below.alloc h hM o

theorem J0b {w w' : World} {M : Nat} (h : Below M w w') : Below M w w'.drew := Below.drew h

theorem J14 {w w' w'' : World} {M : Nat} (h : Below M w w') (hM : M <= w'.heap.size) (m : More w' w'') : Below M w w'' := Below.trans h (Below.mono m hM)

theorem Jme : (Tryz.prog.info? 107).map (fun i => (i.zero, i.size, i.bytes)) = some (some (.agg #[V 0, V 0, V 0]), 3, 24) := by kernel_rfl

theorem J6b (w : World) (x y z : Value) (t : TypeId) : ∀ j u, [x, y, z][j]? = some u -> (w.alloc (.cells #[x, y, z] t)).cell? ((⟨w.heap.size, 0, none⟩ : Addr).add j) = some u := by
 intro j u h;rw [Go.WideShapes.add_plain];have hj : j = 0 \/ j = 1 \/ j = 2 := by have := (List.getElem?_eq_some_iff.1 h).1; simp at this; omega
 rcases hj with rfl | rfl | rfl <;> (simp at h; subst h; go_simp)

structure ScAt (w : World) (B : Nat) (sc : Value) (L : List Int) : Prop where
 out : ∃ sa cap, sc = .slice sa L.length cap /\ L.length <= cap /\ (L ≠ [] -> ∃ sb so, sa = some ⟨sb, so, none⟩ /\ sb < B /\ ∀ j c, L[j]? = some c -> w.cell? ⟨sb, so + j, none⟩ = some (V c))

theorem ScAt.below {w w' : World} {B : Nat} {sc : Value} {L : List Int} (h : ScAt w B sc L) (hb : Below B w w') : ScAt w' B sc L := by
 obtain ⟨sa, cap, h1, h2, h3⟩ := h.out;refine ⟨sa, cap, h1, h2, fun hL => ?_⟩;obtain ⟨sb, so, h4, h5, h6⟩ := h3 hL;exact ⟨sb, so, h4, h5, fun j c hc => by rw [Below.cell hb h5]; exact h6 j c hc⟩

theorem J01 {P : Prop} (h : P) : Hid P := h

theorem J05 {w : World} {R : Nat} {c : Array Value} {T : TypeId} (h : w.heap[R]? = some (.cells c T (0, 0))) (j : Nat) (v : Value) (hv : c[j]? = some v) : w.cell? ⟨R, j, none⟩ = some v := by
 rw [cell_of_row w R j c T (0, 0) h]; exact hv

theorem Jmc : (Tryz.prog.info? 43).map (fun i => (i.zero, i.size, i.bytes)) = some (some (.slice none 0 0), 1, 24) := by kernel_rfl

theorem Jdl (n j : Nat) (h : j < n) : (madeCells #[.slice none 0 0] n)[j]? = some (.slice none 0 0) := by
 unfold madeCells;simp [h, Nat.mod_one]

theorem Jg3 {p : Prg} {s : Sp} {e : Int × Int} (h : (stepS p s).2.2 = some e) : (stepS p s).1 = s.see ⟨1, s.pl.at_, 0⟩ := by
 obtain ⟨i, hI⟩ : ∃ i, p.ins s.pl.at_ = i := ⟨_, rfl⟩;by_cases h7 : i.op = 7
 ·rw [J5g hI h7] at h; cases h
 by_cases h8 : i.op = 8
 ·rw [J8z hI h8 _ rfl _ _ rfl rfl] at h; cases h
 by_cases h9 : i.op = 9
 ·cases ha : s.ahead with
  | false => rw [J5f hI h9 ha]
  | true => rw [J2o hI (.inl ⟨h9, ha⟩)] at h; cases h
 by_cases h12 : i.op = 12
 ·rw [J2o hI (.inr h12)] at h; cases h
 by_cases hw : i.op = 3 \/ i.op = 4 \/ i.op = 5 \/ i.op = 6
 ·by_cases hx : s.ahead = false /\ (idxI s.pl.r i < 0 \/ J0c (p.log i.c.toNat) <= idxI s.pl.r i)
  ·rw [J3n hI hw hx.1 hx.2]
  ·rw [J4c hI hw hx] at h; cases h
 rw [J5h hI (by omega) (by omega) (by omega) (by omega) h7 h8 h9 h12] at h;cases h

theorem Jm6 {p : Prg} {m : Mem} (hrl : m.ml = p.rl) (hlen : ∀ i, i < m.ml -> (m.len i : Int) = J0c (p.log i)) : allI p = (baseN m.len m.ml : Int) := by
 unfold allI;rw [<- hrl];exact (J4i p m hlen m.ml (Nat.le_refl _)).symm
theorem J7x (c : Int) (w : World) : Calls Tryz.prog 54 #[V c] w fun e w' => e = .returned (.bool (decide (c < 0))) /\ w' = w := by
 go_enter Tryz.func54, Tryz.ntmps54;go_wp2;go_ret;exact ⟨rfl, rfl⟩

theorem Jb4 (sa : Option Addr) (sb so n cap : Nat) (L : List Int) (hn : L.length = n) (h2 : n <= 2000) (w : World) (h : SIn w sa sb so L) :
  Calls Tryz.prog 81 #[.slice sa n cap, .func (.func 54) #[] #[]] w fun e w' => ∃ r : Int, e = .returned (V r) /\ (0 <= r ↔ ∃ (j : Nat) (c : Int), L[j]? = some c /\ c < 0) /\ w' = w := by
 have H := J2f (And.intro h hn);clear h hn;go_enter Tryz.func81, Tryz.ntmps81;go_wp2;go_loopg [8] n (fun g i wr => ∃ k : Nat, k + g = n /\ i = V k /\ (∀ (j : Nat) (c : Int), j < k -> L[j]? = some c -> 0 <= c) /\ wr = w)
 case atStart => exact ⟨0, by omega, rfl, fun j c hj => by omega, rfl⟩
 case round =>
  obtain ⟨k, hkg, rfl, hok, rfl⟩ := hrel;have Hok := J2f hok;clear hok;cases gk with
  | zero =>
   obtain rfl : k = n := by omega
   go_wp2;go_ret;refine ⟨-1, rfl, ⟨fun h => by omega, ?_⟩, rfl⟩;rintro ⟨j, c, h1, h2⟩;have hj : j < L.length := (List.getElem?_eq_some_iff.1 h1).1;have := Hok.out j c (by have := H.out.2; omega) h1;omega
  | succ g =>
   have hk : k < n := by omega
   have hk' : (k : Int) < (n : Int) := by omega
   have hkw : wrap64 ((k : Int) + 1) = (k : Int) + 1 := by unfold wrap64; omega
   obtain rfl := H.out.1.ha (by have := H.out.2; omega);obtain ⟨c, hc⟩ : ∃ c, L[k]? = some c := ⟨L[k]'(by have := H.out.2; omega), List.getElem?_eq_getElem _⟩;have hcell := H.out.1.cells k c hc;have Hc := J2f hc;clear hc;by_cases c0 : c < 0
   ·have hB := J7x c wr
    rw [decide_eq_true c0] at hB;have HB := J2f hB;clear hB;go_wp2_with (fail)
    refine HB.out.mono ?_;rintro e w2 ⟨rfl, rfl⟩;go_wp2;go_ret;exact ⟨k, rfl, ⟨fun _ => ⟨k, c, Hc.out, c0⟩, fun _ => by omega⟩, rfl⟩
   ·have hB := J7x c wr
    rw [decide_eq_false c0] at hB;have HB := J2f hB;clear hB;go_wp2_with (fail)
    refine HB.out.mono ?_;rintro e w2 ⟨rfl, rfl⟩;go_wp2;go_roundg g
    case measure => omega
    case rel =>
     refine ⟨k + 1, by omega, by first | rfl | (push_cast; rfl) | simp, fun j c' hj hc' => ?_, rfl⟩;by_cases e : j = k
     ·subst e
      rw [Hc.out] at hc';obtain rfl := Option.some.inj hc';omega
     ·exact Hok.out j c' (by omega) hc'

theorem J7j (sa : Option Addr) (sb so n cap : Nat) (L : List Int) (hn : L.length = n) (h2 : n <= 2000) (w : World) (h : SIn w sa sb so L) :
  Calls Tryz.prog 55 #[.slice sa n cap, .func (.func 54) #[] #[]] w fun e w' => ∃ r : Bool, e = .returned (.bool r) /\ (r = true ↔ ∃ (j : Nat) (c : Int), L[j]? = some c /\ c < 0) /\ w' = w := by
 have HI := J2f (Jb4 sa sb so n cap L hn h2 w h);clear h hn;go_enter Tryz.func55, Tryz.ntmps55;go_wp2_with (fail)
 refine HI.out.mono ?_;rintro e w2 ⟨r, rfl, hr, rfl⟩;have Hr := J2f hr;clear hr HI;go_wp2;go_ret;exact ⟨decide (0 <= r), rfl, by rw [decide_eq_true_eq]; exact Hr.out, rfl⟩

theorem J5s (sa : Option Addr) (sb so n cap : Nat) (L : List Int) (hn : L.length = n) (w : World) (h : SIn w sa sb so L) :
  Calls Tryz.prog 39 #[.slice sa n cap] w fun e w' => ∃ r : Bool, e = .returned (.bool r) /\ (r = true ↔ ScOk L) /\ w' = w := by
 have Hn := J2f hn;by_cases h2 : n <= 2000
 ·have h2' : (n : Int) <= 2000 := by omega
  have HI := J2f (J7j sa sb so n cap L hn h2 w h);clear h hn;go_enter Tryz.func39, Tryz.ntmps39;go_wp2_with (fail)
  refine HI.out.mono ?_;rintro e w2 ⟨r, rfl, hr, rfl⟩;have Hr := J2f hr;clear hr HI;go_wp2;go_ret;refine ⟨!r, by simp, ?_, rfl⟩;constructor
  ·intro h
   refine ⟨by rw [Hn.out]; exact h2, fun j c hc => ?_⟩;by_cases c0 : 0 <= c
   ·exact c0
   ·have := Hr.out.2 ⟨j, c, hc, by omega⟩
    rw [this] at h;cases h
  ·intro h
   cases r with
   | false => rfl
   | true =>
    obtain ⟨j, c, h3, h4⟩ := Hr.out.1 rfl;have := h.2 j c h3;omega
 ·have h2' : decide ((n : Int) <= 2000) = false := by simp; omega
  clear h hn;go_enter Tryz.func39, Tryz.ntmps39;go_wp2;go_ret;exact ⟨false, by first | rfl | (simp; done) | (simp; omega), ⟨(fun h => by cases h), fun h => by have := h.1; rw [Hn.out] at this; omega⟩, rfl⟩
end
section
open Go.RowKit
set_option linter.unusedVariables false
structure Ms where
 fin : Int
 val : Int
 steps : Int
 sv : Value
 mv : Value
 r : Nat -> Int
 wd : Nat -> Int
 next : Int
 fuel : Int
 ended : Bool
 st : Nat -> Int
 T : TypeId
 tl : Nat -> Option Value
 mo : List (Nat × Obj)

def cellF (rv cv : Value) (x : Ms) (j : Nat) : Value :=
 if j = 0 then rv else if j = 1 then cv else if j = 2 then V x.fin else if j = 3 then V x.val else if j = 4 then V x.steps
 else if j = 5 then x.sv else if j = 6 then x.mv else if j < 17 then V (x.r (j - 7)) else if j < 401 then V (x.wd (j - 17))
 else if j = 401 then V x.next else if j = 402 then V x.fuel else if j = 403 then .bool x.ended else V (x.st (j - 404))

theorem Jak (rv cv : Value) (x : Ms) (j : Nat) (hj : j < 10) : cellF rv cv x (7 + j) = V (x.r j) := by
 unfold cellF;rw [if_neg (by omega), if_neg (by omega), if_neg (by omega), if_neg (by omega), if_neg (by omega), if_neg (by omega), if_neg (by omega), if_pos (by omega), show 7 + j - 7 = j by omega]
theorem J8e (rv cv : Value) (x : Ms) (j : Nat) (hj : j < 384) : cellF rv cv x (17 + j) = V (x.wd j) := by
 unfold cellF;rw [if_neg (by omega), if_neg (by omega), if_neg (by omega), if_neg (by omega), if_neg (by omega), if_neg (by omega), if_neg (by omega), if_neg (by omega), if_pos (by omega), show 17 + j - 17 = j by omega]
theorem Jc9 (rv cv : Value) (x : Ms) (j : Nat) (hj : j < 7) : cellF rv cv x (404 + j) = V (x.st j) := by
 unfold cellF;rw [if_neg (by omega), if_neg (by omega), if_neg (by omega), if_neg (by omega), if_neg (by omega), if_neg (by omega), if_neg (by omega), if_neg (by omega), if_neg (by omega), if_neg (by omega), if_neg (by omega), if_neg (by omega), show 404 + j - 404 = j by omega]

structure MC (c : Array Value) (rv cv : Value) (x : Ms) : Prop where
 big : 411 <= c.size
 at_ : ∀ j, j < 411 -> c[j]? = some (cellF rv cv x j)
 tail : ∀ j, 411 <= j -> c[j]? = x.tl j

theorem MC.size {c : Array Value} {rv cv : Value} {x : Ms} (h : MC c rv cv x) (ht : x.tl 411 = none) : c.size = 411 := by
 have h1 := h.tail 411 (Nat.le_refl _);rw [ht, Array.getElem?_eq_none_iff] at h1;have := h.big;omega

structure MAt (w : World) (M : Nat) (rv cv : Value) (x : Ms) : Prop where
 out : ∃ c, w.heap[M]? = some (.cells c x.T (0, 0)) /\ MC c rv cv x

def setN (r : Nat -> Int) (k : Nat) (v : Int) : Nat -> Int := fun j => if j = k then v else r j

section
variable {w w' : World} {M : Nat} {rv cv : Value} {x : Ms}

theorem MAt.wr (h : MAt w M rv cv x) (j : Nat) (hj : j < 411) : Wr w M j (cellF rv cv x j) := by
 obtain ⟨c, hh, hc⟩ := h.out;exact ⟨by rw [cell_of_row w M j c x.T (0, 0) hh]; exact hc.at_ j hj, by simp [World.frozen?, hh]⟩
theorem MAt.lt (h : MAt w M rv cv x) : M < w.heap.size := J06 (h.wr 0 (by omega)).1

theorem MAt.p0 (h : MAt w M rv cv x) : Wr w M 0 rv := h.wr 0 (by omega)
theorem MAt.p1 (h : MAt w M rv cv x) : Wr w M 1 cv := h.wr 1 (by omega)
theorem MAt.fin (h : MAt w M rv cv x) : Wr w M 2 (V x.fin) := h.wr 2 (by omega)
theorem MAt.val (h : MAt w M rv cv x) : Wr w M 3 (V x.val) := h.wr 3 (by omega)
theorem MAt.steps (h : MAt w M rv cv x) : Wr w M 4 (V x.steps) := h.wr 4 (by omega)
theorem MAt.sv (h : MAt w M rv cv x) : Wr w M 5 x.sv := h.wr 5 (by omega)
theorem MAt.mv (h : MAt w M rv cv x) : Wr w M 6 x.mv := h.wr 6 (by omega)
theorem MAt.next (h : MAt w M rv cv x) : Wr w M 401 (V x.next) := h.wr 401 (by omega)
theorem MAt.fuel (h : MAt w M rv cv x) : Wr w M 402 (V x.fuel) := h.wr 402 (by omega)
theorem MAt.ended (h : MAt w M rv cv x) : Wr w M 403 (.bool x.ended) := h.wr 403 (by omega)
theorem MAt.r (h : MAt w M rv cv x) (j : Nat) (hj : j < 10) : Wr w M (7 + j) (V (x.r j)) := by
 have := h.wr (7 + j) (by omega);rw [Jak rv cv x j hj] at this;exact this
theorem MAt.wd (h : MAt w M rv cv x) (j : Nat) (hj : j < 384) : Wr w M (17 + j) (V (x.wd j)) := by
 have := h.wr (17 + j) (by omega);rw [J8e rv cv x j hj] at this;exact this
theorem MAt.st (h : MAt w M rv cv x) (j : Nat) (hj : j < 7) : Wr w M (404 + j) (V (x.st j)) := by
 have := h.wr (404 + j) (by omega);rw [Jc9 rv cv x j hj] at this;exact this

theorem MAt.kept (h : MAt w M rv cv x) {row : Option Nat} (hg : w.grownBy w' row) (hne : some M ≠ row) : MAt w' M rv cv x := by
 obtain ⟨c, hh, hc⟩ := h.out;exact ⟨c, by rw [hg.block M h.lt hne]; exact hh, hc⟩
theorem MAt.alloc (h : MAt w M rv cv x) (o : Obj) : MAt (w.alloc o) M rv cv x := h.kept (World.grownBy_alloc w o none) (by simp)
theorem MAt.drew (h : MAt w M rv cv x) : MAt w.drew M rv cv x := h.kept (J36 w none) (by simp)
theorem MAt.more (h : MAt w M rv cv x) (m : More w w') : MAt w' M rv cv x := h.kept (m.grow none) (by simp)

theorem MAt.set (h : MAt w M rv cv x) (j : Nat) (v : Value) (x' : Ms) (hj : j < 411) (hT : x'.T = x.T) (htl : x'.tl = x.tl) (hx : ∀ i, i < 411 -> cellF rv cv x' i = if i = j then v else cellF rv cv x i) : MAt (w.setCell ⟨M, j, none⟩ v) M rv cv x' := by
 obtain ⟨c, hh, hc⟩ := h.out;refine ⟨c.setIfInBounds j v, ?_, by simp [hc.big], fun i hi => ?_, fun i hi => ?_⟩
 ·rw [setCell_eq_setRow w M j c x.T (0, 0) v hh, hT]
  exact setRow_heap w M c _ x.T _ hh
 ·rw [hx i hi, Array.getElem?_setIfInBounds]
  by_cases e : i = j
  ·subst e
   rw [if_pos rfl, if_pos rfl, if_pos (by have := hc.big; omega)]
  ·rw [if_neg (fun h => e h.symm), if_neg e]
   exact hc.at_ i hi
 ·rw [Array.getElem?_setIfInBounds, if_neg (by omega), htl]
  exact hc.tail i hi

theorem MAt.setTl (h : MAt w M rv cv x) (j : Nat) (v u : Value) (tl : Nat -> Option Value) (hj : 411 <= j) (hu : x.tl j = some u) (htl : ∀ i, 411 <= i -> tl i = if i = j then some v else x.tl i) : MAt (w.setCell ⟨M, j, none⟩ v) M rv cv { x with tl := tl } := by
 obtain ⟨c, hh, hc⟩ := h.out
 have hlt : j < c.size := by
  have h1 := hc.tail j hj;rw [hu] at h1;exact (Array.getElem?_eq_some_iff.1 h1).1
 refine ⟨c.setIfInBounds j v, ?_, by simp [hc.big], fun i hi => ?_, fun i hi => ?_⟩
 ·rw [setCell_eq_setRow w M j c x.T (0, 0) v hh]
  exact setRow_heap w M c _ x.T _ hh
 ·rw [Array.getElem?_setIfInBounds, if_neg (by omega)]
  exact hc.at_ i hi
 ·show _ = tl i
  rw [Array.getElem?_setIfInBounds, htl i hi];by_cases e : i = j
  ·subst e
   rw [if_pos rfl, if_pos rfl, if_pos hlt]
  ·rw [if_neg (fun h => e h.symm), if_neg e]
   exact hc.tail i hi
theorem MAt.tlw (h : MAt w M rv cv x) (j : Nat) (hj : 411 <= j) (v : Value) (hv : x.tl j = some v) : Wr w M j v := by
 obtain ⟨c, hh, hc⟩ := h.out;exact ⟨by rw [cell_of_row w M j c x.T (0, 0) hh, hc.tail j hj]; exact hv, by simp [World.frozen?, hh]⟩

theorem MAt.setFin (h : MAt w M rv cv x) (n : Int) : MAt (w.setCell ⟨M, 2, none⟩ (V n)) M rv cv { x with fin := n } :=
 h.set 2 _ _ (by omega) rfl rfl fun i hi => by unfold cellF; by_cases e : i = 2 <;> simp [e]
theorem MAt.setVal (h : MAt w M rv cv x) (n : Int) : MAt (w.setCell ⟨M, 3, none⟩ (V n)) M rv cv { x with val := n } :=
 h.set 3 _ _ (by omega) rfl rfl fun i hi => by unfold cellF; by_cases e : i = 3 <;> simp [e]
theorem MAt.setSteps (h : MAt w M rv cv x) (n : Int) : MAt (w.setCell ⟨M, 4, none⟩ (V n)) M rv cv { x with steps := n } :=
 h.set 4 _ _ (by omega) rfl rfl fun i hi => by unfold cellF; by_cases e : i = 4 <;> simp [e]
theorem MAt.setSv (h : MAt w M rv cv x) (v : Value) : MAt (w.setCell ⟨M, 5, none⟩ v) M rv cv { x with sv := v } :=
 h.set 5 _ _ (by omega) rfl rfl fun i hi => by unfold cellF; by_cases e : i = 5 <;> simp [e]
theorem MAt.setMv (h : MAt w M rv cv x) (v : Value) : MAt (w.setCell ⟨M, 6, none⟩ v) M rv cv { x with mv := v } :=
 h.set 6 _ _ (by omega) rfl rfl fun i hi => by unfold cellF; by_cases e : i = 6 <;> simp [e]
theorem MAt.setNext (h : MAt w M rv cv x) (n : Int) : MAt (w.setCell ⟨M, 401, none⟩ (V n)) M rv cv { x with next := n } :=
 h.set 401 _ _ (by omega) rfl rfl fun i hi => by unfold cellF; by_cases e : i = 401 <;> simp [e]
theorem MAt.setEnded (h : MAt w M rv cv x) (b : Bool) : MAt (w.setCell ⟨M, 403, none⟩ (.bool b)) M rv cv { x with ended := b } :=
 h.set 403 _ _ (by omega) rfl rfl fun i hi => by unfold cellF; by_cases e : i = 403 <;> simp [e]
theorem MAt.setR (h : MAt w M rv cv x) (k : Nat) (hk : k < 10) (n : Int) : MAt (w.setCell ⟨M, 7 + k, none⟩ (V n)) M rv cv { x with r := setN x.r k n } :=
 h.set (7 + k) _ _ (by omega) rfl rfl fun i hi => by
  by_cases e : i = 7 + k
  ·subst e; rw [if_pos rfl, Jak _ _ _ k hk]; simp [setN]
  ·rw [if_neg e]
   unfold cellF setN;by_cases e1 : i < 7
   ·have : i = 0 \/ i = 1 \/ i = 2 \/ i = 3 \/ i = 4 \/ i = 5 \/ i = 6 := by omega
    rcases this with rfl | rfl | rfl | rfl | rfl | rfl | rfl <;> simp
   ·have e2 : ¬ i - 7 = k := by omega
    simp [e2]
theorem MAt.setWd (h : MAt w M rv cv x) (k : Nat) (hk : k < 384) (n : Int) : MAt (w.setCell ⟨M, 17 + k, none⟩ (V n)) M rv cv { x with wd := setN x.wd k n } :=
 h.set (17 + k) _ _ (by omega) rfl rfl fun i hi => by
  by_cases e : i = 17 + k
  ·subst e; rw [if_pos rfl, J8e _ _ _ k hk]; simp [setN]
  ·rw [if_neg e]
   unfold cellF setN;by_cases e1 : i < 17
   ·simp [e1]
   ·have e2 : ¬ i - 17 = k := by omega
    simp [e2]
theorem MAt.setSt (h : MAt w M rv cv x) (k : Nat) (hk : k < 7) (n : Int) : MAt (w.setCell ⟨M, 404 + k, none⟩ (V n)) M rv cv { x with st := setN x.st k n } :=
 h.set (404 + k) _ _ (by omega) rfl rfl fun i hi => by
  by_cases e : i = 404 + k
  ·subst e; rw [if_pos rfl, Jc9 _ _ _ k hk]; simp [setN]
  ·rw [if_neg e]
   unfold cellF setN;by_cases e1 : i < 404
   ·have : i < 401 \/ i = 401 \/ i = 402 \/ i = 403 := by omega
    rcases this with h1 | rfl | rfl | rfl
    ·simp [h1]
    ·simp
    ·simp
    ·simp
   ·have e2 : ¬ i - 404 = k := by omega
    simp [e2]
end

structure Run (w : World) (M : Nat) (rv cv : Value) (x : Ms) (se : List Se) : Prop where
 out : ∃ sv, MAt w M rv cv { x with sv := sv } /\ SeenOwn w (M + 1) sv se /\ ∀ q ∈ x.mo, M < q.1 /\ some q.1 ≠ sv.ownBlock /\ w.heap[q.1]? = some q.2

section
variable {w w' : World} {M : Nat} {rv cv : Value} {x x' : Ms} {se : List Se}
theorem Run.lt (h : Run w M rv cv x se) : M < w.heap.size := by
 obtain ⟨sv, hm, _⟩ := h.out;exact hm.lt
theorem Run.kept (h : Run w M rv cv x se) {row : Option Nat} (hg : w.grownBy w' row) (hr : ∀ b, row = some b -> b < M) : Run w' M rv cv x se := by
 obtain ⟨sv, hm, ho, hq⟩ := h.out;exact ⟨sv, hm.kept hg (fun e => by have := hr M e.symm; omega), ho.kept hg (fun b hb => by have := hr b hb; omega), fun q e => ⟨(hq q e).1, (hq q e).2.1, by rw [hg.block q.1 (J16 (hq q e).2.2) (fun e' => by have := hr q.1 e'.symm; have := (hq q e).1; omega)]; exact (hq q e).2.2⟩⟩
theorem Run.more (h : Run w M rv cv x se) (m : More w w') : Run w' M rv cv x se := h.kept (m.grow none) (fun b hb => by cases hb)
theorem Run.alloc (h : Run w M rv cv x se) (o : Obj) : Run (w.alloc o) M rv cv x se := h.kept (World.grownBy_alloc w o none) (fun b hb => by cases hb)
theorem Run.drew (h : Run w M rv cv x se) : Run w.drew M rv cv x se := h.kept (J36 w none) (fun b hb => by cases hb)
theorem Run.put (h : Run w M rv cv x se) {j : Nat} {v : Value} (hmo : x'.mo = x.mo) (hm : ∀ sv, MAt w M rv cv { x with sv := sv } -> MAt (w.setCell ⟨M, j, none⟩ v) M rv cv { x' with sv := sv }) : Run (w.setCell ⟨M, j, none⟩ v) M rv cv x' se := by
 obtain ⟨sv, h1, ho, hq⟩ := h.out
 exact ⟨sv, hm sv h1, ho.kept (J1d w M j v) (fun b hb => by have := Option.some.inj hb; omega), fun q e => by
  rw [hmo] at e;exact ⟨(hq q e).1, (hq q e).2.1, by rw [(J1d w M j v).block q.1 (J16 (hq q e).2.2) (fun e' => by have := Option.some.inj e'; have := (hq q e).1; omega)]; exact (hq q e).2.2⟩⟩
theorem Run.setFin (h : Run w M rv cv x se) (n : Int) : Run (w.setCell ⟨M, 2, none⟩ (V n)) M rv cv { x with fin := n } se := h.put rfl fun _ m => m.setFin n
theorem Run.setVal (h : Run w M rv cv x se) (n : Int) : Run (w.setCell ⟨M, 3, none⟩ (V n)) M rv cv { x with val := n } se := h.put rfl fun _ m => m.setVal n
theorem Run.setSteps (h : Run w M rv cv x se) (n : Int) : Run (w.setCell ⟨M, 4, none⟩ (V n)) M rv cv { x with steps := n } se := h.put rfl fun _ m => m.setSteps n
theorem Run.setNext (h : Run w M rv cv x se) (n : Int) : Run (w.setCell ⟨M, 401, none⟩ (V n)) M rv cv { x with next := n } se := h.put rfl fun _ m => m.setNext n
theorem Run.setEnded (h : Run w M rv cv x se) (b : Bool) : Run (w.setCell ⟨M, 403, none⟩ (.bool b)) M rv cv { x with ended := b } se := h.put rfl fun _ m => m.setEnded b
theorem Run.setR (h : Run w M rv cv x se) (k : Nat) (hk : k < 10) (n : Int) : Run (w.setCell ⟨M, 7 + k, none⟩ (V n)) M rv cv { x with r := setN x.r k n } se := h.put rfl fun _ m => m.setR k hk n
theorem Run.setWd (h : Run w M rv cv x se) (k : Nat) (hk : k < 384) (n : Int) : Run (w.setCell ⟨M, 17 + k, none⟩ (V n)) M rv cv { x with wd := setN x.wd k n } se := h.put rfl fun _ m => m.setWd k hk n

theorem Run.fin (h : Run w M rv cv x se) : Wr w M 2 (V x.fin) := by obtain ⟨sv, m, _⟩ := h.out; exact m.fin
theorem Run.val (h : Run w M rv cv x se) : Wr w M 3 (V x.val) := by obtain ⟨sv, m, _⟩ := h.out; exact m.val
theorem Run.steps (h : Run w M rv cv x se) : Wr w M 4 (V x.steps) := by obtain ⟨sv, m, _⟩ := h.out; exact m.steps
theorem Run.p0 (h : Run w M rv cv x se) : Wr w M 0 rv := by obtain ⟨sv, m, _⟩ := h.out; exact m.p0
theorem Run.p1 (h : Run w M rv cv x se) : Wr w M 1 cv := by obtain ⟨sv, m, _⟩ := h.out; exact m.p1
theorem Run.next (h : Run w M rv cv x se) : Wr w M 401 (V x.next) := by obtain ⟨sv, m, _⟩ := h.out; exact m.next
theorem Run.fuel (h : Run w M rv cv x se) : Wr w M 402 (V x.fuel) := by obtain ⟨sv, m, _⟩ := h.out; exact m.fuel
theorem Run.ended (h : Run w M rv cv x se) : Wr w M 403 (.bool x.ended) := by obtain ⟨sv, m, _⟩ := h.out; exact m.ended
theorem Run.r (h : Run w M rv cv x se) (j : Nat) (hj : j < 10) : Wr w M (7 + j) (V (x.r j)) := by obtain ⟨sv, m, _⟩ := h.out; exact m.r j hj
theorem Run.wd (h : Run w M rv cv x se) (j : Nat) (hj : j < 384) : Wr w M (17 + j) (V (x.wd j)) := by obtain ⟨sv, m, _⟩ := h.out; exact m.wd j hj
theorem Run.tlw (h : Run w M rv cv x se) (j : Nat) (hj : 411 <= j) (v : Value) (hv : x.tl j = some v) : Wr w M j v := by obtain ⟨sv, m, _⟩ := h.out; exact m.tlw j hj v hv
theorem Run.setTl (h : Run w M rv cv x se) (j : Nat) (v u : Value) (tl : Nat -> Option Value) (hj : 411 <= j) (hu : x.tl j = some u) (htl : ∀ i, 411 <= i -> tl i = if i = j then some v else x.tl i) : Run (w.setCell ⟨M, j, none⟩ v) M rv cv { x with tl := tl } se := h.put rfl fun _ m => m.setTl j v u tl hj hu htl
theorem Run.st (h : Run w M rv cv x se) (j : Nat) (hj : j < 7) : Wr w M (404 + j) (V (x.st j)) := by obtain ⟨sv, m, _⟩ := h.out; exact m.st j hj
end

theorem MAt.mos {w : World} {M : Nat} {rv cv : Value} {x : Ms} (h : MAt w M rv cv x) (l : List (Nat × Obj)) : MAt w M rv cv { x with mo := l } := by
 obtain ⟨c, hh, hc⟩ := h.out;exact ⟨c, hh, hc.big, hc.at_, hc.tail⟩
theorem Run.left {w : World} {M : Nat} {rv cv : Value} {x : Ms} {se : List Se} (h : Run w M rv cv x se) {q : Nat × Obj} (hq : q ∈ x.mo) : w.heap[q.1]? = some q.2 := by obtain ⟨sv, _, _, h3⟩ := h.out; exact (h3 q hq).2.2
theorem Run.beside {w : World} {M : Nat} {rv cv : Value} {x : Ms} {se : List Se} (h : Run w M rv cv x se) (o : Obj) : Run (w.alloc o) M rv cv { x with mo := (w.heap.size, o) :: x.mo } se := by
 have h0 := h.alloc o;obtain ⟨sv, h1, h2, h3⟩ := h.out;refine ⟨sv, (h1.alloc o).mos _, h2.kept (World.grownBy_alloc w o none) (fun b hb => by cases hb), fun q hq => ?_⟩;rcases List.mem_cons.1 hq with rfl | hq
 ·refine ⟨h.lt, fun e => ?_, heap_alloc_last w o⟩
  have := (World.ownsRow.lt h2 _ e.symm).2;dsimp only at this;omega
 ·refine ⟨(h3 q hq).1, (h3 q hq).2.1, ?_⟩
  rw [(World.grownBy_alloc w o none).block q.1 (J16 (h3 q hq).2.2) (by simp)];exact (h3 q hq).2.2
theorem Run.fewer {w : World} {M : Nat} {rv cv : Value} {x : Ms} {se : List Se} (h : Run w M rv cv x se) (l : List (Nat × Obj)) (hl : ∀ q ∈ l, q ∈ x.mo) : Run w M rv cv { x with mo := l } se := by
 obtain ⟨sv, h1, h2, h3⟩ := h.out;exact ⟨sv, h1.mos _, h2, fun q hq => h3 q (hl q hq)⟩
end
section
open Go.RowKit
set_option linter.unusedSimpArgs false
set_option linter.unusedVariables false
theorem J3i (w : World) (M : Nat) (a b : Int) (s4 : w.cell? ⟨M, 4, none⟩ = some (V a)) (s402 : w.cell? ⟨M, 402, none⟩ = some (V b)) :
  Calls Tryz.prog 56 #[.pointer (some ⟨M, 0, none⟩)] w fun e w' => e = .returned (.bool (decide (a < b))) /\ More w w' := by
 go_enter Tryz.func56, Tryz.ntmps56;go_wp2
 go_region
 go_wp2;go_ret;exact ⟨rfl, (More.refl _).drew⟩

theorem J4p (w : World) (M : Nat) (a : Int) (ca : Option Addr) (cl cc : Nat) (s : w.cell? ⟨M, 401, none⟩ = some (V a)) (s1 : w.cell? ⟨M, 1, none⟩ = some (.slice ca cl cc)) :
  Calls Tryz.prog 57 #[.pointer (some ⟨M, 0, none⟩)] w fun e w' => e = .returned (.bool (decide (a < (cl : Int)))) /\ More w w' := by
 go_enter Tryz.func57, Tryz.ntmps57;go_wp2
 go_region
 go_wp2;go_ret;exact ⟨rfl, (More.refl _).drew⟩

theorem J49 (w : World) (M : Nat) (rv cv : Value) (x : Ms) (se : List Se) (n : Int) (h : Run w M rv cv x se) :
  Calls Tryz.prog 83 #[.pointer (some ⟨M, 0, none⟩), V n] w fun e w' => e = .returned (.tuple #[]) /\ Run w' M rv cv { x with fin := n, ended := true } se /\ Below M w w' := by
 obtain ⟨c0, f0⟩ := h.fin;obtain ⟨c1, f1⟩ := h.ended;have H : Hid (Run w M rv cv x se) := h;clear h;go_enter Tryz.func83, Tryz.ntmps83;go_wp2;go_end0;exact ⟨rfl, (H.out.setFin n).setEnded true, J0i (J0i (Below.refl _ _) _ _) _ _⟩

def OwnNot (w : World) (M B : Nat) : Prop := ∀ sv, w.cell? ⟨M, 5, none⟩ = some sv -> some B ≠ sv.ownBlock
theorem Run.notOwn {w : World} {M : Nat} {rv cv : Value} {x : Ms} {se : List Se} (h : Run w M rv cv x se) (B : Nat) (hB : w.heap.size <= B) : OwnNot w M B := by
 intro sv hc e;obtain ⟨sv', hm, ho, _⟩ := h.out;have h5 := hm.sv.1;dsimp only at h5;rw [hc] at h5;obtain rfl := Option.some.inj h5;have := (World.ownsRow.lt ho B e.symm).2;omega

theorem OwnNot.of {w w' : World} {M B : Nat} (h : OwnNot w M B) (e : w'.cell? ⟨M, 5, none⟩ = w.cell? ⟨M, 5, none⟩) : OwnNot w' M B := fun sv hc => h sv (by rw [<- e]; exact hc)
structure RunA (w : World) (M : Nat) (rv cv : Value) (x : Ms) (se : List Se) (R : Nat) : Prop where
 run : Run w M rv cv x se
 own : OwnNot w M R
 ne : R ≠ M
 mo : ∀ q ∈ x.mo, q.1 ≠ R
theorem Run.moLt {w : World} {M : Nat} {rv cv : Value} {x : Ms} {se : List Se} (h : Run w M rv cv x se) : ∀ q ∈ x.mo, q.1 ≠ w.heap.size := by
 intro q e;obtain ⟨sv, _, _, hq⟩ := h.out;have := J16 (hq q e).2.2;omega
theorem RunA.set {w : World} {M : Nat} {rv cv : Value} {x : Ms} {se : List Se} {R : Nat} (h : RunA w M rv cv x se R) (j : Nat) (v : Value) : RunA (w.setCell ⟨R, j, none⟩ v) M rv cv x se R := by
 obtain ⟨sv, hm, ho, hq⟩ := h.run.out;have hne : some M ≠ some R := fun e => h.ne (Option.some.inj e).symm
 refine ⟨⟨sv, hm.kept (J1d w R j v) hne, World.ownsRow.kept ho (J1d w R j v) (.inr fun e => h.own sv hm.sv.1 e.symm), fun q e => ⟨(hq q e).1, (hq q e).2.1, by rw [(J1d w R j v).block q.1 (J16 (hq q e).2.2) (fun e' => h.mo q e (Option.some.inj e'))]; exact (hq q e).2.2⟩⟩, h.own.of (World.cell?_setCell_other _ _ _ _ ?_), h.ne, h.mo⟩;intro e;simp only [Addr.mk.injEq] at e;exact h.ne e.1

theorem J4a (w : World) (M : Nat) (rv cv : Value) (x : Ms) (se : List Se) (k a b : Int) (hl : se.length <= 200000) (h : Run w M rv cv x se) :
  Calls Tryz.prog 82 #[.pointer (some ⟨M, 0, none⟩), V k, V a, V b] w fun e w' => e = .returned (.tuple #[]) /\ Run w' M rv cv x (se ++ [⟨k, a, b⟩]) /\ Below M w w' /\ ∀ B, B < w.heap.size -> B ≠ M -> OwnNot w M B -> w'.heap[B]? = w.heap[B]? /\ OwnNot w' M B := by
 obtain ⟨sv, hm, ho, hq⟩ := h.out;obtain ⟨sa, sc, rfl⟩ := J8r ho;obtain ⟨c5, f5⟩ := hm.sv;dsimp only at c5;have hlt := hm.lt;obtain ⟨i2, hi2, hz0, hz1, hz2⟩ := info_parts Jme;have Hi : Hid (Tryz.prog.info? 107 = some i2 /\ i2.zero = some (.agg #[V 0, V 0, V 0]) /\ i2.size = 3 /\ i2.bytes = 24) := ⟨hi2, hz0, hz1, hz2⟩;clear hi2 hz0 hz1 hz2;have H : Hid (MAt w M rv cv { x with sv := .slice sa se.length sc } /\ SeenOwn w (M + 1) (.slice sa se.length sc) se /\ se.length <= 200000 /\ M < w.heap.size) := ⟨hm, ho, hl, hlt⟩;have Hrow : Hid (some M ≠ (Value.slice sa se.length sc).ownBlock) := fun e => by have := (World.ownsRow.lt ho M e.symm).1; omega
 have Hown : Hid (SeenOwn (w.alloc (.cells #[V k, V a, V b] 107)) (M + 1) (.slice sa se.length sc) se) := ho.kept (World.grownBy_alloc w _ none) (fun b hb => by cases hb);have HQ : Hid (∀ q ∈ x.mo, M < q.1 /\ some q.1 ≠ (Value.slice sa se.length sc).ownBlock /\ w.heap[q.1]? = some q.2) := hq;clear hm ho hl h hlt hq;go_enter Tryz.func82, Tryz.ntmps82;go_wp2_with (at_builtin; refine wpList_append_lies _ rfl (.tmp 13) (.tmp 18) 63 rfl (M + 1) 107 i2 (.agg #[V 0, V 0, V 0]) 3 24 Tryz.underlying63 Hi.out.1 Hi.out.2.1 Hi.out.2.2.1 Hi.out.2.2.2 rfl (by decide) (.slice sa se.length sc) se.length (flatS se) rfl Hown.out ⟨w.heap.size, 0, none⟩ 1 1 [V k, V a, V b] rfl rfl (by simpa using J6b w (V k) (V a) (V b) 107) (fun x hx => by simp at hx; rcases hx with rfl | rfl | rfl <;> rfl) (by decide) (by have := H.out.2.2.1; unfold maxLen; omega) (by have := H.out.2.2.1; omega) (by have := H.out.2.2.2; simp; omega) (w.heap.size + 1) (by simp) ?_; intro g_ cap w2 own2 gr2 hat2 hlt2; obtain ⟨t5c, t5f⟩ := (H.out.1.sv.kept (World.grownBy_alloc w (.cells #[V k, V a, V b] 107) none) (by simp)).kept gr2 Hrow.out)
 go_end0
 have kp : ∀ B, B < w.heap.size -> B ≠ M -> some B ≠ (Value.slice sa se.length sc).ownBlock -> (w2.setCell ⟨M, 5, none⟩ (.slice (some ⟨g_, 0, none⟩) (se.length + 1) cap)).heap[B]? = w.heap[B]? /\ B ≠ g_ := by
  intro B hB hM hO;refine ⟨by rw [Below.heap_setCell _ _ _ _ (by simpa using hM), gr2.block B (by simp; omega) hO, (World.grownBy_alloc w _ none).block B hB (by simp)], fun e => ?_⟩;subst e;rcases hat2 with h1 | h1
  ·exact hO h1.symm
  ·omega
 refine ⟨rfl, ⟨.slice (some ⟨g_, 0, none⟩) (se.length + 1) cap, ((H.out.1.alloc _).kept gr2 Hrow.out).setSv _, ?_, fun q e => ?_⟩, J0i (Below.grown (J07 (Below.refl _ _) (by have := H.out.2.2.2; omega) _) gr2 ?_ ?_) _ _, ?_⟩
 ·refine SeenOwn.kept ?_ (J1d _ _ _ _) (fun b hb => by have := Option.some.inj hb; omega)
  unfold SeenOwn; rw [J5m, List.length_append]; exact own2
 ·obtain ⟨q1, q2, q3⟩ := HQ.out q e
  have h1 := kp q.1 (J16 q3) (by omega) q2;refine ⟨q1, fun e' => h1.2 ?_, by rw [h1.1]; exact q3⟩;simpa [Value.ownBlock] using e'
 ·have := H.out.2.2.2; simp; omega
 ·intro b hb; have := (World.ownsRow.lt H.out.2.1 b hb).1; omega
 ·intro B hB hM hO
  have h1 := kp B hB hM (hO _ H.out.1.sv.1);refine ⟨h1.1, fun sv hc e => ?_⟩;rw [World.cell?_setCell_same _ _ _ t5c] at hc;obtain rfl := Option.some.inj hc;exact h1.2 (by simpa [Value.ownBlock] using e)
end
section
open Go.RowKit
set_option linter.unusedSimpArgs false
set_option linter.unusedVariables false
set_option maxRecDepth 8000
theorem Jfw (op a b c n : Int) (w : World) (M : Nat) (rv : Value) (cb co cl cc at_ : Nat) (x : Ms) (se : List Se) (hl : se.length <= 200000) (hnext : x.next = (at_ : Int)) (hat : at_ < cl) (hcl : cl <= 8000) (k0 : 0 <= x.steps) (k1 : x.steps <= 40000) (hcb : cb < M)
  (q0 : w.cell? ⟨cb, co + at_ * 5, none⟩ = some (V op)) (q1 : w.cell? ⟨cb, co + at_ * 5 + 1, none⟩ = some (V a)) (q2 : w.cell? ⟨cb, co + at_ * 5 + 2, none⟩ = some (V b)) (q3 : w.cell? ⟨cb, co + at_ * 5 + 3, none⟩ = some (V c)) (q4 : w.cell? ⟨cb, co + at_ * 5 + 4, none⟩ = some (V n))
  (h : Run w M rv (.slice (some ⟨cb, co, none⟩) cl cc) x se) :
  Calls Tryz.prog 60 #[.pointer (some ⟨M, 0, none⟩)] w fun e w' => e = .returned (.agg #[V op, V a, V b, V c, V n]) /\ Run w' M rv (.slice (some ⟨cb, co, none⟩) cl cc) { x with steps := x.steps + 1, next := (at_ : Int) + 1 } (se ++ [⟨1, at_, 0⟩]) /\ Below M w w' := by
 have hM := h.lt;have hn : ¬ M = w.heap.size := by omega
 have hn' : ¬ w.heap.size = M := by omega
 have hx0 : wrap64 (x.steps + 1) = x.steps + 1 := by unfold wrap64; omega
 have hx1 : wrap64 ((at_ : Int) + 1) = (at_ : Int) + 1 := by unfold wrap64; omega
 obtain ⟨c4, f4⟩ := h.steps;obtain ⟨c401, f401⟩ := h.next;rw [hnext] at c401;obtain ⟨k, hk⟩ : ∃ k, x.steps = k := ⟨_, rfl⟩;rw [hk] at c4 hx0 |-;have H : Hid (Run w M rv (.slice (some ⟨cb, co, none⟩) cl cc) x se /\ se.length <= 200000 /\ cb < M) := ⟨h, hl, hcb⟩;have q0' : Hid (w.cell? ⟨cb, co + at_ * 5, none⟩ = some (V op)) := q0;have q1' : Hid (w.cell? ⟨cb, co + at_ * 5 + 1, none⟩ = some (V a)) := q1;have q2' : Hid (w.cell? ⟨cb, co + at_ * 5 + 2, none⟩ = some (V b)) := q2;have q3' : Hid (w.cell? ⟨cb, co + at_ * 5 + 3, none⟩ = some (V c)) := q3;have q4' : Hid (w.cell? ⟨cb, co + at_ * 5 + 4, none⟩ = some (V n)) := q4;have hat' : (at_ : Int) < (cl : Int) := by omega
 have hat0 : (0 : Int) <= (at_ : Int) := by omega
 have Hnx : Hid (x.next = (at_ : Int)) := hnext;clear h hl hk hnext q0 q1 q2 q3 q4 k0 k1;go_enter Tryz.func60, Tryz.ntmps60;go_wp2_with (fail)
 refine (J4a _ M rv (.slice (some ⟨cb, co, none⟩) cl cc) { x with steps := k + 1 } se 1 at_ 0 H.out.2.1 ((H.out.1.setSteps (k + 1)).alloc _)).mono ?_;rintro e w2 ⟨rfl, r2, b2, kp⟩;have kb := kp w.heap.size (by simp) (by omega) (((H.out.1.setSteps (k + 1)).notOwn w.heap.size (by simp)).of (World.cell?_of_block ((World.grownBy_alloc _ _ none).block M (by simpa using hM) (by simp))));have hb2 : Below M w w2 := Below.trans (J07 (J0i (Below.refl _ _) _ _) (by simp; omega) _) b2;have Hr : Hid (Run w2 M rv (.slice (some ⟨cb, co, none⟩) cl cc) { x with steps := k + 1 } (se ++ [⟨1, at_, 0⟩]) /\ Below M w w2) := ⟨r2, hb2⟩;have q0 : w2.cell? ⟨cb, co + at_ * 5, none⟩ = some (V op) := by rw [Below.cell hb2 H.out.2.2]; exact q0'.out
 have q1 : w2.cell? ⟨cb, co + at_ * 5 + 1, none⟩ = some (V a) := by rw [Below.cell hb2 H.out.2.2]; exact q1'.out
 have q2 : w2.cell? ⟨cb, co + at_ * 5 + 2, none⟩ = some (V b) := by rw [Below.cell hb2 H.out.2.2]; exact q2'.out
 have q3 : w2.cell? ⟨cb, co + at_ * 5 + 3, none⟩ = some (V c) := by rw [Below.cell hb2 H.out.2.2]; exact q3'.out
 have q4 : w2.cell? ⟨cb, co + at_ * 5 + 4, none⟩ = some (V n) := by rw [Below.cell hb2 H.out.2.2]; exact q4'.out
 have z : ∀ j, j < 5 -> w2.cell? ⟨w.heap.size, j, none⟩ = some (V 0) /\ w2.frozen? ⟨w.heap.size, j, none⟩ = false := by
  intro j hj;rw [World.cell?_of_block kb.1, World.frozen?_of_block kb.1];have : j = 0 \/ j = 1 \/ j = 2 \/ j = 3 \/ j = 4 := by omega
  rcases this with rfl | rfl | rfl | rfl | rfl <;> exact ⟨by go_simp, by go_simp⟩
 obtain ⟨z0, g0⟩ := z 0 (by omega);obtain ⟨z1, g1⟩ := z 1 (by omega);obtain ⟨z2, g2⟩ := z 2 (by omega);obtain ⟨z3, g3⟩ := z 3 (by omega);obtain ⟨z4, g4⟩ := z 4 (by omega);obtain ⟨n401, m401⟩ := r2.next;have n1 := r2.p1.1;replace n401 : w2.cell? ⟨M, 401, none⟩ = some (V at_) := by rw [n401]; exact congrArg (fun v => some (Value.int .i64 v)) Hnx.out
 have d1 : ¬ cb = M := by omega
 have d2 : ¬ M = cb := by omega
 have d3 : ¬ cb = w.heap.size := by omega
 have d4 : ¬ w.heap.size = cb := by omega
 have Hfin : Hid (∀ u0 u1 u2 u3 u4 : Value, Run ((((((w2.setCell ⟨M, 401, none⟩ (V ((at_ : Int) + 1))).setCell ⟨w.heap.size, 0, none⟩ u0).setCell ⟨w.heap.size, 1, none⟩ u1).setCell ⟨w.heap.size, 2, none⟩ u2).setCell ⟨w.heap.size, 3, none⟩ u3).setCell ⟨w.heap.size, 4, none⟩ u4) M rv (.slice (some ⟨cb, co, none⟩) cl cc) { x with steps := k + 1, next := (at_ : Int) + 1 } (se ++ [⟨1, at_, 0⟩]) /\ Below M w ((((((w2.setCell ⟨M, 401, none⟩ (V ((at_ : Int) + 1))).setCell ⟨w.heap.size, 0, none⟩ u0).setCell ⟨w.heap.size, 1, none⟩ u1).setCell ⟨w.heap.size, 2, none⟩ u2).setCell ⟨w.heap.size, 3, none⟩ u3).setCell ⟨w.heap.size, 4, none⟩ u4)) := by
  intro u0 u1 u2 u3 u4;have hle : M <= w.heap.size := by omega
  refine ⟨(((((RunA.mk (r2.setNext ((at_ : Int) + 1)) (kb.2.of (World.cell?_setCell_other _ _ _ _ (by simp))) hn' H.out.1.moLt).set 0 u0).set 1 u1).set 2 u2).set 3 u3 |>.set 4 u4).run, Below.setCell (Below.setCell (Below.setCell (Below.setCell (Below.setCell (J0i hb2 _ _) hle _) hle _) hle _) hle _) hle _⟩
 clear r2 b2 kp kb z hb2;go_wp2;refine bodyPost_ret (v := .agg #[V op, V a, V b, V c, V n]) (by simp [results, Tryz.results60, go_sem, *]) rfl ⟨rfl, ?_⟩;exact Hfin.out _ _ _ _ _

theorem J8t (w : World) (M : Nat) (rv : Value) (ca : Option Addr) (cl cc : Nat) (x : Ms) (se : List Se) (h : Run w M rv (.slice ca cl cc) x se) (he : x.ended = false) (hf : x.steps < x.fuel) (hn : x.next < (cl : Int)) :
  Calls Tryz.prog 59 #[.pointer (some ⟨M, 0, none⟩)] w fun e w' => e = .returned (.bool true) /\ Run w' M rv (.slice ca cl cc) x se /\ Below M w w' := by
 have H : Hid (Run w M rv (.slice ca cl cc) x se) := h;have e1 := h.ended.1;rw [he] at e1
 have Hf : Hid (∀ w1, More w w1 -> Calls Tryz.prog 56 #[.pointer (some ⟨M, 0, none⟩)] w1 fun e w' => e = .returned (.bool true) /\ More w1 w') := fun w1 m => by
  have := J3i w1 M _ _ (h.more m).steps.1 (h.more m).fuel.1;rw [decide_eq_true hf] at this;exact this
 have Hn : Hid (∀ w1, More w w1 -> Calls Tryz.prog 57 #[.pointer (some ⟨M, 0, none⟩)] w1 fun e w' => e = .returned (.bool true) /\ More w1 w') := fun w1 m => by
  have := J4p w1 M _ ca cl cc (h.more m).next.1 (h.more m).p1.1;rw [decide_eq_true hn] at this;exact this
 clear h he hf hn;go_enter Tryz.func59, Tryz.ntmps59;go_wp2_with (fail)
 refine (Hf.out _ (More.refl _)).mono ?_;rintro e w1 ⟨rfl, m1⟩;have Hm1 : Hid (More w w1) := m1;clear m1;go_wp2_with (fail)
 refine (Hn.out _ Hm1.out).mono ?_;rintro e w2 ⟨rfl, m2⟩;have Hm2 : Hid (More w w2) := Hm1.out.trans m2;have e2 := m2.cell (Hm1.out.cell e1);clear m2;go_wp2;go_ret;exact ⟨rfl, H.out.more Hm2.out, Below.mono Hm2.out (Nat.le_of_lt H.out.lt)⟩

theorem J78 (w : World) (M : Nat) (rv cv : Value) (x : Ms) (se : List Se) (h : Run w M rv cv x se) (he : x.ended = true) :
  Calls Tryz.prog 59 #[.pointer (some ⟨M, 0, none⟩)] w fun e w' => e = .returned (.bool false) /\ Run w' M rv cv x se /\ Below M w w' := by
 have H : Hid (Run w M rv cv x se) := h;have e1 := h.ended.1;rw [he] at e1;clear h he;go_enter Tryz.func59, Tryz.ntmps59;go_wp2;go_ret;exact ⟨rfl, H.out, Below.refl _ _⟩

theorem J76 (w : World) (M : Nat) (rv cv : Value) (x : Ms) (se : List Se) (h : Run w M rv cv x se) (he : x.ended = false) (hf : ¬ x.steps < x.fuel) :
  Calls Tryz.prog 59 #[.pointer (some ⟨M, 0, none⟩)] w fun e w' => e = .returned (.bool false) /\ Run w' M rv cv { x with fin := 0, ended := true } se /\ Below M w w' := by
 have H : Hid (Run w M rv cv x se) := h;have e1 := h.ended.1;rw [he] at e1
 have Hf : Hid (∀ w1, More w w1 -> Calls Tryz.prog 56 #[.pointer (some ⟨M, 0, none⟩)] w1 fun e w' => e = .returned (.bool false) /\ More w1 w') := fun w1 m => by
  have := J3i w1 M _ _ (h.more m).steps.1 (h.more m).fuel.1;rw [decide_eq_false hf] at this;exact this
 clear h he hf;go_enter Tryz.func59, Tryz.ntmps59;go_wp2_with (fail)
 refine (Hf.out _ (More.refl _)).mono ?_;rintro e w1 ⟨rfl, m1⟩;have Hm1 : Hid (More w w1) := m1;clear m1;go_wp2_with (fail)
 refine (J49 _ M rv cv x se 0 (H.out.more Hm1.out)).mono ?_;rintro e w2 ⟨rfl, r2, b2⟩;have H2 : Hid (Run w2 M rv cv { x with fin := 0, ended := true } se /\ Below M w w2) := ⟨r2, Below.trans (Below.mono Hm1.out (Nat.le_of_lt H.out.lt)) b2⟩;have e2 := r2.ended.1;dsimp only at e2;clear r2 b2;go_wp2;go_ret;exact ⟨rfl, H2.out.1, H2.out.2⟩

theorem J77 (w : World) (M : Nat) (rv : Value) (ca : Option Addr) (cl cc : Nat) (x : Ms) (se : List Se) (h : Run w M rv (.slice ca cl cc) x se) (he : x.ended = false) (hf : x.steps < x.fuel) (hn : ¬ x.next < (cl : Int)) :
  Calls Tryz.prog 59 #[.pointer (some ⟨M, 0, none⟩)] w fun e w' => e = .returned (.bool false) /\ Run w' M rv (.slice ca cl cc) { x with fin := 2, ended := true } se /\ Below M w w' := by
 have H : Hid (Run w M rv (.slice ca cl cc) x se) := h;have e1 := h.ended.1;rw [he] at e1
 have Hf : Hid (∀ w1, More w w1 -> Calls Tryz.prog 56 #[.pointer (some ⟨M, 0, none⟩)] w1 fun e w' => e = .returned (.bool true) /\ More w1 w') := fun w1 m => by
  have := J3i w1 M _ _ (h.more m).steps.1 (h.more m).fuel.1;rw [decide_eq_true hf] at this;exact this
 have Hn : Hid (∀ w1, More w w1 -> Calls Tryz.prog 57 #[.pointer (some ⟨M, 0, none⟩)] w1 fun e w' => e = .returned (.bool false) /\ More w1 w') := fun w1 m => by
  have := J4p w1 M _ ca cl cc (h.more m).next.1 (h.more m).p1.1;rw [decide_eq_false hn] at this;exact this
 clear h he hf hn;go_enter Tryz.func59, Tryz.ntmps59;go_wp2_with (fail)
 refine (Hf.out _ (More.refl _)).mono ?_;rintro e w1 ⟨rfl, m1⟩;have Hm1 : Hid (More w w1) := m1;clear m1;go_wp2_with (fail)
 refine (Hn.out _ Hm1.out).mono ?_;rintro e w2 ⟨rfl, m2⟩;have Hm2 : Hid (More w w2) := Hm1.out.trans m2;clear m2;go_wp2_with (fail)
 refine (J49 _ M rv (.slice ca cl cc) x se 2 (H.out.more Hm2.out)).mono ?_;rintro e w3 ⟨rfl, r3, b3⟩;have H2 : Hid (Run w3 M rv (.slice ca cl cc) { x with fin := 2, ended := true } se /\ Below M w w3) := ⟨r3, Below.trans (Below.mono Hm2.out (Nat.le_of_lt H.out.lt)) b3⟩;have e2 := r3.ended.1;dsimp only at e2;clear r3 b3;go_wp2;go_ret;exact ⟨rfl, H2.out.1, H2.out.2⟩
end
section
open Go.RowKit
set_option linter.unusedSimpArgs false
set_option linter.unusedVariables false
theorem J7n {P : Program} (w : World) (g o : Nat) (ty : TypeId) (cs : List Value) (d : TypeDesc) (hc : ∀ j v, cs[j]? = some v -> w.cell? ⟨g, o + j, none⟩ = some v)
  (hu : P.underlying ty = some d) (hd : (match d with | .struct _ | .array _ _ => true | _ => false) = true) (hi : (P.info? ty).map (·.size) = some cs.length) :
  (loadVar ty ⟨g, o, none⟩).run P w = .ok (.agg cs.toArray) w := by
 have hl : (loadCells ⟨g, o, none⟩ cs.length).run P w = .ok cs.toArray w :=
  run_loadCells_list (P := P) w ⟨g, o, none⟩ cs (fun j v hv => by rw [Go.WideShapes.add_plain]; exact hc j v hv)
 cases hq : P.info? ty with
 | none => simp [hq] at hi
 | some i =>
  have hs : i.size = cs.length := by simpa [hq] using hi
  have hagg : (isAgg ty).run P w = .ok true w := by
   unfold isAgg;rw [Sem.run_bind, run_underlying hu w];cases d <;> simp_all
  simp [loadVar, Sem.run_bind, hagg, sizeOf, typeInfo, hq, hs, hl]

theorem J75 {P : Program} (w : World) (g o : Nat) (ty : TypeId) (cs : Array Value) (hi : (P.info? ty).map (·.size) = some cs.size) (hc : ∀ j, j < cs.size -> ∃ v, Wr w g (o + j) v) (h1 : ∀ v ∈ cs.toList, v.oneCell' = true) :
  (storeVar ty ⟨g, o, none⟩ (.agg cs)).run P w = .ok () (w.setCells g o cs.toList) := by
 have hst := run_storeCells_cells (P := P) g o cs.toList 0 w (fun j hj => by obtain ⟨v, hv⟩ := hc j (by simpa using hj); simp [hv.1]) (fun j hj => by obtain ⟨v, hv⟩ := hc j (by simpa using hj); simp [hv.2]) h1;cases hq : P.info? ty with
 | none => simp [hq] at hi
 | some i =>
  have hs : cs.size = i.size := by simp [hq] at hi; omega
  simp [storeVar, sizeOf, typeInfo, hq, Value.cells, hs];simpa using hst

theorem J32 {P : Program} {o : Oper} {a : Act} {w : World} {K : Act -> World -> Prop} {Q : Exit -> Act -> World -> Prop} (ty : TypeId) (x y : Operand) (ho : o.op = .store ty x y)
  (g k : Nat) (cs : Array Value) (hx : a.eval x = .pointer (some ⟨g, k, none⟩)) (hy : a.eval y = .agg cs) (hi : (P.info? ty).map (·.size) = some cs.size) (hc : ∀ j, j < cs.size -> ∃ v, Wr w g (k + j) v) (h1 : ∀ v ∈ cs.toList, v.oneCell' = true)
  (h : K (a.put o.dst undef) (w.setCells g k cs.toList)) : o.wp P a w K Q := by
 unfold Oper.wp execOp;simp only [ho, hx, hy, Instr.storeAt, Instr.sureAddr, Sem.run_bind, Sem.run_pure, Result.andThen_ok, J75 w g k ty cs hi hc h1];exact h

theorem J28 {P : Program} {o : Oper} {a : Act} {w : World} (ty : TypeId) (x : Operand) (ho : o.op = .load ty x)
  (g k : Nat) (hx : a.eval x = .pointer (some ⟨g, k, none⟩)) (cs : List Value) (d : TypeDesc) (hc : ∀ j v, cs[j]? = some v -> w.cell? ⟨g, k + j, none⟩ = some v)
  (hu : P.underlying ty = some d) (hd : (match d with | .struct _ | .array _ _ => true | _ => false) = true) (hi : (P.info? ty).map (·.size) = some cs.length) :
  (execOp a.eval o).run P w = .ok (.value (.agg cs.toArray)) w := by
 unfold execOp;simp only [ho, hx, Instr.loadAt, Instr.sureAddr, Sem.run_bind, Sem.run_pure, Result.andThen_ok, J7n w g k ty cs d hc hu hd hi]

theorem Jd5 {P : Program} {o : Oper} {a : Act} {w : World} (t : TypeId) (parts : Array (Nat × Operand)) (ho : o.op = .build t parts) (C : Array Value)
  (hf : P.built t (parts.map fun (i, x) => (i, a.eval x)).toList = some C) : (execOp a.eval o).run P w = .ok (.value (.agg C)) w := by
 unfold execOp;simp only [ho, Sem.run_bind, run_build w t _ C hf, Result.andThen_ok, Sem.run_pure]
end
section
open Go.ChangeMaps (setBlock heap_setBlock_same heap_setBlock_other)
open Go.MapKept (Stamped stamped_push stamped_modify stamped_empty)
open Go.RowKit
open Go.WideMaps (KeyLaw)
set_option linter.unusedSimpArgs false
set_option linter.unusedVariables false
set_option maxRecDepth 8000
theorem Jko : laidOutB Tryz.prog = true := by kernel_rfl
theorem Jmt : (145 : TypeId) < Tryz.prog.types.size := of_decide_eq_true (by kernel_rfl)
theorem Jly : (match Tryz.prog.underlying 145 with | some (.array _ _) | some (.struct _) => true | _ => false) = true := by kernel_rfl
theorem law127 : KeyLaw Tryz.prog 145 := deep_law_laid Jko (m := 3) (by omega) Jmt (by kernel_rfl) Jly
theorem Jgn : Tryz.prog.cellsOf 145 = 2 := by kernel_rfl
theorem Jjz : Tryz.prog.cellsOf 2 = 1 := by kernel_rfl
theorem Jk1 : Tryz.prog.cellsOf 3 = 1 := by kernel_rfl
theorem Jdh : Tryz.prog.keyType 145 = true := by kernel_rfl

def pk (n t : Int) : Value := .agg #[V n, V t]
theorem Jjr {n t n' t' : Int} (h : pk n t = pk n' t') : n = n' /\ t = t' := by
 unfold pk at h;simp at h;exact h

theorem Jjb {n : Int} (h : B64 n) : (Lit.int .i64 n).wf = true := by
 unfold B64 at h;simp [Lit.wf, IntKind.min, IntKind.max, IntKind.signed, IntKind.bits];omega

theorem Jf1 {P : Program} {k : TypeId} {f1 f2 : Field} {m : Nat} (hu : P.underlying k = some (.struct #[f1, f2])) (hkt : P.keyType k = true) (hc : P.cellsOf k = 2) (hn : (#[f1, f2].all (·.name != "_")) = true) (o1 : f1.offset = 0) (o2 : f2.offset = 1)
  (u1 : P.underlying f1.type = some (.int .i64)) (u2 : P.underlying f2.type = some (.int .i64)) (c1 : P.cellsOf f1.type = 1) (c2 : P.cellsOf f2.type = 1) (hm : P.types.size + 1 = m + 2) {a b : Int} (h1 : (Lit.int .i64 a).wf = true) (h2 : (Lit.int .i64 b).wf = true) :
  keyOf P k (.agg #[.int .i64 a, .int .i64 b]) = some (.string (keyBytes [Lit.int .i64 a, Lit.int .i64 b])) := by
 unfold keyOf;simp only [hu];rw [if_pos (by simp [hkt, Value.formed, hu, hc]), hm];unfold Program.keyLits;simp only [hu, Value.cells];rw [if_pos ⟨by rw [hc]; rfl, hn⟩];simp [List.mapM_cons, o1, o2, c1, c2, Program.keyLits, u1, u2, h1, h2]

theorem Jcp {n t : Int} (hn : B64 n) (ht : B64 t) : ∃ l, keyOf Tryz.prog 145 (pk n t) = some l :=
 ⟨_, Jf1 (m := 180) Tryz.underlying145 Jdh Jgn (by simp) rfl rfl Tryz.underlying2 Tryz.underlying3 Jjz Jk1 (by kernel_rfl) (Jjb hn) (Jjb ht)⟩

structure MapAt (w : World) (b : Nat) (f : Int -> Int -> Int) : Prop where
 out : ∃ es clock, w.heap[b]? = some (.map es clock) /\ Stamped es clock /\ (∀ e ∈ es.toList, ∃ n t, B64 n /\ B64 t /\ e.key = pk n t /\ e.val = V (f n t)) /\ (∀ n t, (∀ e ∈ es.toList, e.key ≠ pk n t) -> f n t = 0)

theorem MapAt.lt {w : World} {b : Nat} {f : Int -> Int -> Int} (h : MapAt w b f) : b < w.heap.size := by
 obtain ⟨es, clock, hb, _⟩ := h.out;exact (Array.getElem?_eq_some_iff.1 hb).1
theorem MapAt.block {w w' : World} {b : Nat} {f : Int -> Int -> Int} (h : MapAt w b f) (hb : w'.heap[b]? = w.heap[b]?) : MapAt w' b f := by
 obtain ⟨es, clock, h1, h2⟩ := h.out;exact ⟨es, clock, hb.trans h1, h2⟩
theorem MapAt.made (w : World) : MapAt (w.alloc (.map #[] 0)) w.heap.size (fun _ _ => 0) :=
 ⟨#[], 0, (MapKept.heap_alloc w _).1, stamped_empty 0, by simp, fun _ _ _ => rfl⟩

theorem MapAt.look {w : World} {b : Nat} {f : Int -> Int -> Int} (h : MapAt w b f) {n t : Int} (hn : B64 n) (ht : B64 t) : (Instr.lookup 97 (.map (some b)) (pk n t) false).run Tryz.prog w = .ok (V (f n t)) w := by
 obtain ⟨es, clock, hb, hs, he, hz⟩ := h.out;obtain ⟨l, hkey⟩ := Jcp hn ht;have hzero : (zeroValue 2).run Tryz.prog w = .ok (V 0) w := by kernel_rfl
 rcases law127.find w hkey es.toList (fun e hm => by obtain ⟨n', t', h1, h2, h3, _⟩ := he e hm; rw [h3]; exact Jcp h1 h2) with ⟨h1, h2⟩ | ⟨j, e0, h1, h2, h3⟩
 ·rw [hz n t h2]
  simp [Instr.lookup, run_underlying Tryz.underlying97, MapKept.run_getObj_map hb, law127.check w _ hkey, h1, hzero, Result.andThen]
 ·obtain ⟨n', t', _, _, h5, h6⟩ := he e0 (List.mem_of_getElem? h2)
  obtain ⟨rfl, rfl⟩ := Jjr (h3.symm.trans h5);simp [Instr.lookup, run_underlying Tryz.underlying97, MapKept.run_getObj_map hb, law127.check w _ hkey, h1, h6, Result.andThen]

theorem MapAt.update {w : World} {b : Nat} {f : Int -> Int -> Int} (h : MapAt w b f) {n t : Int} (hn : B64 n) (ht : B64 t) (v : Int) :
  ∃ w', (Instr.mapUpdate 97 (.map (some b)) (pk n t) (V v)).run Tryz.prog w = .ok () w' /\ MapAt w' b (fun n' t' => if n' = n /\ t' = t then v else f n' t') /\ w.grownBy w' (some b) := by
 obtain ⟨es, clock, hb, hs, he, hz⟩ := h.out;obtain ⟨l, hkey⟩ := Jcp hn ht;have grown : ∀ o, w.grownBy (setBlock w b o) (some b) := fun o => ⟨rfl, rfl, rfl, by simp [setBlock], fun i _ hi => heap_setBlock_other hb _ (fun e => hi (by rw [e]))⟩
 rcases law127.find w hkey es.toList (fun e hm => by obtain ⟨n', t', h1, h2, h3, _⟩ := he e hm; rw [h3]; exact Jcp h1 h2) with ⟨h1, h2⟩ | ⟨j, e0, h1, h2, h3⟩
 ·refine ⟨setBlock w b (.map (es.push ⟨pk n t, V v, clock⟩) (clock + 1)), ?_, ⟨_, _, heap_setBlock_same hb _, stamped_push hs h2, fun e hm => ?_, fun n' t' ha => ?_⟩, grown _⟩
  ·simp [Instr.mapUpdate, run_underlying Tryz.underlying97, MapKept.run_getObj_map hb, law127.check w false hkey, h1, MapKept.run_setObj_map _ hb, Result.andThen, setBlock]
  ·simp only [Array.toList_push, List.mem_append, List.mem_singleton] at hm
   rcases hm with hm | rfl
   ·obtain ⟨n', t', a1, a2, a3, a4⟩ := he e hm
    refine ⟨n', t', a1, a2, a3, ?_⟩;rw [if_neg (fun hh => h2 e hm (by rw [a3, hh.1, hh.2]))];exact a4
   ·exact ⟨n, t, hn, ht, rfl, by rw [if_pos ⟨rfl, rfl⟩]⟩
  ·simp only [Array.toList_push, List.mem_append, List.mem_singleton] at ha
   have h4 : ¬ (n' = n /\ t' = t) := fun hh => ha ⟨pk n t, V v, clock⟩ (.inr rfl) (by rw [hh.1, hh.2])
   rw [if_neg h4];exact hz n' t' (fun e hm => ha e (.inl hm))
 ·have hj : es[j]? = some e0 := by simpa using h2
  have hjl : j < es.toList.length := (List.getElem?_eq_some_iff.1 h2).1;have hlist : (es.modify j (fun e' => { e' with key := pk n t, val := V v })).toList = es.toList.set j { e0 with key := pk n t, val := V v } := by rw [Array.toList_modify, ChangeMaps.modify_eq_set _ _ _ _ h2]
  refine ⟨setBlock w b (.map (es.modify j (fun e' => { e' with key := pk n t, val := V v })) clock), ?_, ⟨_, _, heap_setBlock_same hb _, stamped_modify hs _ _ (fun _ _ => rfl) (fun e' _ he' => by rw [hj] at he'; cases he'; exact h3.symm), fun e hm => ?_, fun n' t' ha => ?_⟩, grown _⟩
  ·simp [Instr.mapUpdate, run_underlying Tryz.underlying97, MapKept.run_getObj_map hb, law127.check w false hkey, h1, hj, h3, law127.stays w hkey, MapKept.run_setObj_map _ hb, Result.andThen, setBlock]
  ·rw [hlist] at hm
   obtain ⟨i, hi, ex⟩ := List.getElem_of_mem hm;rw [List.getElem_set] at ex
   split at ex
   ·subst ex
    exact ⟨n, t, hn, ht, rfl, by rw [if_pos ⟨rfl, rfl⟩]⟩
   ·rename_i hne
    have hi' : i < es.toList.length := by simpa using hi
    have hm' : e ∈ es.toList := ex ▸ List.getElem_mem hi';obtain ⟨n', t', a1, a2, a3, a4⟩ := he e hm';refine ⟨n', t', a1, a2, a3, ?_⟩;rw [if_neg (fun hh => ?_)]
    ·exact a4
    have hk : e.key = e0.key := by rw [a3, h3, hh.1, hh.2]
    have hnd := hs.2.2
    have e1 : (es.toList.map (·.key))[i]? = (es.toList.map (·.key))[j]? := by
     rw [List.getElem?_map, List.getElem?_map, h2, List.getElem?_eq_getElem hi', ex];simp [hk]
    exact hne (((List.getElem?_inj (by simpa using hi') hnd).1 e1).symm)
  ·rw [hlist] at ha
   have h4 : ¬ (n' = n /\ t' = t) := fun hh => ha { e0 with key := pk n t, val := V v } (List.mem_iff_getElem.2 ⟨j, by simpa using hjl, by simp⟩) (by rw [hh.1, hh.2])
   rw [if_neg h4];refine hz n' t' (fun e hm hk => ?_);obtain ⟨i, hi, ex⟩ := List.getElem_of_mem hm;by_cases e1 : j = i
   ·subst e1
    have : e = e0 := by rw [<- ex]; exact (List.getElem?_eq_some_iff.1 h2).2
    subst this;exact h4 (by obtain ⟨a, b⟩ := Jjr (hk.symm.trans h3); exact ⟨a, b⟩)
   ·exact ha e (List.mem_iff_getElem.2 ⟨i, by simpa using hi, by rw [List.getElem_set, if_neg e1]; exact ex⟩) hk

theorem Jm0 {o : Oper} {a : Act} {w : World} {K : Act -> World -> Prop} {Q : Exit -> Act -> World -> Prop} (m x : Operand) (ho : o.op = .lookup 97 m x false) (b : Nat) (f : Int -> Int -> Int) (n t : Int)
  (hm : a.eval m = .map (some b)) (hx : a.eval x = pk n t) (hM : MapAt w b f) (hn : B64 n) (ht : B64 t) (h : K (a.put o.dst (V (f n t))) w) : o.wp Tryz.prog a w K Q := by
 unfold Oper.wp execOp;simp only [ho, hm, hx, hM.look hn ht, Sem.run_bind, Sem.run_pure, Result.andThen_ok];exact h
theorem Jgd {o : Oper} {a : Act} {w : World} {K : Act -> World -> Prop} {Q : Exit -> Act -> World -> Prop} (m x y : Operand) (ho : o.op = .mapUpdate 97 m x y) (b : Nat) (f : Int -> Int -> Int) (n t v : Int)
  (hm : a.eval m = .map (some b)) (hx : a.eval x = pk n t) (hy : a.eval y = V v) (hM : MapAt w b f) (hn : B64 n) (ht : B64 t)
  (h : ∀ w', MapAt w' b (fun n' t' => if n' = n /\ t' = t then v else f n' t') -> w.grownBy w' (some b) -> K (a.put o.dst undef) w') : o.wp Tryz.prog a w K Q := by
 obtain ⟨w', h1, h2, h3⟩ := hM.update hn ht v;unfold Oper.wp execOp;simp only [ho, hm, hx, hy, h1, Sem.run_bind, Sem.run_pure, Result.andThen_ok];exact h w' h2 h3
theorem Jc0 {ops : Array Oper} {rest : List Oper} {o : Oper} {a : Act} {w : World} {Q : Exit -> Act -> World -> Prop} (hgd : o.guard = none) (m x : Operand) (ho : o.op = .lookup 97 m x false) (b : Nat) (f : Int -> Int -> Int) (n t : Int)
  (hm : a.eval m = .map (some b)) (hx : a.eval x = pk n t) (hM : MapAt w b f) (hn : B64 n) (ht : B64 t) (h : wpList Tryz.prog ops Q rest (a.put o.dst (V (f n t))) w) : wpList Tryz.prog ops Q (o :: rest) a w :=
 wpList_plain hgd fun _ hK => Jm0 m x ho b f n t hm hx hM hn ht (hK _ _ h)
end
section
open Go.RowKit
theorem J4o (ra : Option Addr) (rl rc : Nat) (ca : Option Addr) (cl cc : Nat) (ma : Option Addr) (ml mc : Nat) (rb ro mb mo : Nat) (log : Nat -> Int) (sec : Nat -> Bool) (A : Nat -> Option Addr) (L C : Nat -> Nat) (w : World)
  (hra : 0 < rl -> ra = some ⟨rb, ro, none⟩) (hr : RegsAt w rb ro rl log sec) (hma : 0 < ml -> ma = some ⟨mb, mo, none⟩) (hm : ListsAt w mb mo ml A L C) :
  Calls Tryz.prog 53 #[.agg #[.slice ra rl rc, .slice ca cl cc], .slice ma ml mc] w (Says (J0t rl log ml L) w) := by
 have Hr : Hid ((0 < rl -> ra = some ⟨rb, ro, none⟩) /\ RegsAt w rb ro rl log sec) := ⟨hra, hr⟩;have Hl : Hid ((0 < ml -> ma = some ⟨mb, mo, none⟩) /\ ListsAt w mb mo ml A L C) := ⟨hma, hm⟩;clear hra hr hma hm;have m0 : More w ((w.alloc (.cells #[.slice ra rl rc, .slice ca cl cc] 25)).alloc (.cells #[.slice ra rl rc, .slice ca cl cc, V 0, V 0] 113)) := ((More.refl _).alloc _ _).alloc _ _;have Hm0 : Hid (More w ((w.alloc (.cells #[.slice ra rl rc, .slice ca cl cc] 25)).alloc (.cells #[.slice ra rl rc, .slice ca cl cc, V 0, V 0] 113))) := m0;clear m0;go_enter Tryz.func53, Tryz.ntmps53;go_wp2_with (fail)
 refine (J4z ra rl rc ca cl cc 0 0 rb ro log sec _ Hr.out.1 (Hr.out.2.more Hm0.out)).mono ?_;rintro e w1 ⟨r, rfl, h, m1⟩;have e0 : w1.cell? ⟨w.heap.size, 0, none⟩ = some (.slice ra rl rc) := m1.cell (by go_simp);have e1 : w1.cell? ⟨w.heap.size, 1, none⟩ = some (.slice ca cl cc) := m1.cell (by go_simp);have Hm1 : Hid (More w w1) := Hm0.out.trans m1;clear m1 Hm0;cases r with
 | false =>
  have HA : Hid (¬ J0h rl log) := fun k => by simpa using h.2 k
  clear h;go_wp2;go_ret;exact Says.no (fun h => HA.out h.1) Hm1.out
 | true =>
  have HA : Hid (J0h rl log) := h.1 rfl;clear h;by_cases hne : (ml : Int) = (rl : Int)
  ·obtain rfl : ml = rl := by omega
   clear hne;have h6 : ml <= 6 := HA.out.1;go_wp2;go_loopg [22] ml (fun g i wr => ∃ k : Nat, k + g = ml /\ i = V k /\ (∀ j, j < k -> (L j : Int) = J0c (log j)) /\ More w1 wr)
   case atStart => exact ⟨0, by omega, rfl, fun j hj => by omega, More.refl _⟩
   case round =>
    obtain ⟨k, hkg, rfl, hin, m⟩ := hrel;have Hm : Hid (More w1 wr /\ ∀ j, j < k -> (L j : Int) = J0c (log j)) := ⟨m, hin⟩;clear m hin e0 e1;cases gk with
    | zero =>
     obtain rfl : k = ml := by omega
     go_wp2;go_ret;exact Says.yes ⟨HA.out, rfl, Hm.out.2⟩ (Hm1.out.trans Hm.out.1)
    | succ g =>
     have hk : k < ml := by omega
     have hk' : (k : Int) < (ml : Int) := by omega
     have hk0 : (0 : Int) <= (k : Int) := by omega
     obtain rfl := Hr.out.1 (by omega);obtain rfl := Hl.out.1 (by omega);have Hww : Hid (More w wr) := Hm1.out.trans Hm.out.1;have q0 := ((Hr.out.2.more Hww.out) k hk).1;have q1 := ((Hr.out.2.more Hww.out) k hk).2;have q2 := (Hl.out.2.more Hww.out) k hk;have Hlog : Hid (0 <= log k /\ log k <= 6) := HA.out.2 k hk;obtain ⟨lk, hlk⟩ : ∃ x, log k = x := ⟨_, rfl⟩;rw [hlk] at q0 Hlog;have Hlk : Hid (log k = lk) := hlk;clear hlk;obtain ⟨W, HW⟩ : ∃ W : World, Hid (W = wr.alloc (.cells #[V lk, .bool (sec k)] 40)) := ⟨_, rfl⟩;have HwW : Hid (More wr W) := HW.out ▸ ((More.refl _).alloc _ _);obtain ⟨S, HS⟩ : ∃ S : World -> Prop, Hid (∀ w', S w' ↔ More W w') := ⟨fun w' => More W w', fun _ => Iff.rfl⟩;have k2 : ∀ i : { w' // S w' }, i.val.cell? ⟨mb, mo + k, none⟩ = some (.slice (A k) (L k) (C k)) := fun i => ((HS.out _).1 i.property).cell (HwW.out.cell q2)
     have d0 : ∀ i : { w' // S w' }, i.val.cell? ⟨wr.heap.size, 0, none⟩ = some (V lk) := fun i => ((HS.out _).1 i.property).cell (by rw [HW.out]; go_simp)
     have d1 : ∀ i : { w' // S w' }, i.val.cell? ⟨wr.heap.size, 1, none⟩ = some (.bool (sec k)) := fun i => ((HS.out _).1 i.property).cell (by rw [HW.out]; go_simp)
     have hne : Nonempty { w' // S w' } := ⟨⟨W, (HS.out _).2 (More.refl _)⟩⟩;go_wp2_with (fail)
     clear q0 q1 q2;refine J03 (S := S) [(0, true), (1, true), (2, true), (3, true), (4, true), (5, true), (6, false), (7, true)] (by kernel_rfl) (by kernel_rfl) (by kernel_rfl) ((HS.out _).2 (HW.out ▸ (More.refl _).drew)) ?_
     iterate 6 (refine J00 rfl (by kernel_rfl) (fun K hK => ?_); go_simp; refine hK _ _ ?_; clear hK K)
     refine J02 rfl (by kernel_rfl) (fun K hK => ?_); go_simp;obtain ⟨nw, hnw⟩ : ∃ x, J0c lk = x := ⟨_, rfl⟩;refine (Jah lk Hlog.out.1 Hlog.out.2 nw hnw.symm (sec k) _).mono ?_;have Hnw : Hid (J0c (log k) = nw) := by rw [Hlk.out]; exact hnw
     clear hnw;rintro e w2 ⟨rfl, m2⟩;have Hm2 : Hid (More W w2) := HW.out ▸ (More.trans (More.refl _).drew m2);clear m2
     go_simp
     refine hK _ _ ((HS.out _).2 Hm2.out) ?_; clear hK K;by_cases hq : (L k : Int) = nw
     ·have Hq : Hid ((L k : Int) = nw) := hq
      have heq : ((L k : Int) != nw) = false := by simp [hq]
      clear hq;refine J00 rfl (by kernel_rfl) (fun K hK => ?_); go_simp; refine hK _ _ ?_; clear hK K;refine J04 ?_;clear heq k2 d0 d1 hne;go_wp2;go_roundg g
      case measure => omega
      case rel =>
       refine ⟨k + 1, by omega, by first | rfl | simp, fun j hj => ?_, (Hm.out.1.trans HwW.out).trans Hm2.out⟩;by_cases e : j = k
       ·subst e; rw [Hq.out, Hnw.out]
       ·exact Hm.out.2 j (by omega)
     ·have Hq : Hid (¬ (L k : Int) = nw) := hq
      have heq' : ((L k : Int) != nw) = true := by simp [hq]
      clear hq;refine J00 rfl (by kernel_rfl) (fun K hK => ?_); go_simp; refine hK _ _ ?_; clear hK K;refine J04 ?_;clear heq' k2 d0 d1 hne;go_wp2;go_ret;exact Says.no (fun h => Hq.out (by rw [<- Hnw.out]; exact h.2.2 k hk)) ((Hww.out.trans HwW.out).trans Hm2.out)
  ·go_wp2
   go_ret;exact Says.no (fun h => by have := h.2.1; omega) Hm1.out
end
section
open Go.RowKit
set_option linter.unusedSimpArgs false
set_option linter.unusedVariables false
set_option maxRecDepth 8000
def rowOf (rv cv : Value) (x : Ms) : Array Value := ((List.range 411).map (cellF rv cv x)).toArray
theorem Jip (rv cv : Value) (x : Ms) : MC (rowOf rv cv { x with tl := fun _ => none }) rv cv { x with tl := fun _ => none } := ⟨by simp [rowOf], fun j hj => by simp [rowOf, hj], fun j hj => by simp [rowOf]; omega⟩
def ms0 (fuel : Int) : Ms := ⟨0, 0, 0, .slice none 0 0, .slice none 0 0, fun _ => 0, fun _ => 0, 0, fuel, false, fun _ => 0, 94, fun _ => none, []⟩
theorem MC.one {c : Array Value} {rv cv : Value} {x : Ms} (h : MC c rv cv x) (h0 : rv.oneCell' = true) (h1 : cv.oneCell' = true) (h2 : x.sv.oneCell' = true) (h3 : x.mv.oneCell' = true) (h4 : x.tl 411 = none) : c.all (·.oneCell') = true := by
 rw [Array.all_eq_true];intro i hi;have := h.at_ i (by rw [<- h.size h4]; exact hi);rw [Array.getElem?_eq_getElem hi] at this;rw [Option.some.inj this];unfold cellF;by_cases e0 : i = 0
 ·rw [if_pos e0]; exact h0
 rw [if_neg e0];by_cases e1 : i = 1
 ·rw [if_pos e1]; exact h1
 rw [if_neg e1];by_cases e2 : i = 2
 ·rw [if_pos e2]; rfl
 rw [if_neg e2];by_cases e3 : i = 3
 ·rw [if_pos e3]; rfl
 rw [if_neg e3];by_cases e4 : i = 4
 ·rw [if_pos e4]; rfl
 rw [if_neg e4];by_cases e5 : i = 5
 ·rw [if_pos e5]; exact h2
 rw [if_neg e5];by_cases e6 : i = 6
 ·rw [if_pos e6]; exact h3
 rw [if_neg e6];by_cases e7 : i < 17
 ·rw [if_pos e7]; rfl
 rw [if_neg e7];by_cases e8 : i < 401
 ·rw [if_pos e8]; rfl
 rw [if_neg e8];by_cases e9 : i = 401
 ·rw [if_pos e9]; rfl
 rw [if_neg e9];by_cases e10 : i = 402
 ·rw [if_pos e10]; rfl
 rw [if_neg e10];by_cases e11 : i = 403
 ·rw [if_pos e11]; rfl
 rw [if_neg e11]
 rfl

theorem Jmd : (Tryz.prog.info? 94).map (fun i => (i.zero, i.size)) = some (some (.agg (rowOf (.slice none 0 0) (.slice none 0 0) (ms0 0))), 411) := by kernel_rfl
theorem J9b : Tryz.prog.built 94 [] = some (rowOf (.slice none 0 0) (.slice none 0 0) (ms0 0)) := by kernel_rfl
theorem J1t {P : Program} {fn : Func} {p u : Tmp} {ty : TypeId} (h : fn.results = #[.cell p ty, .tmp u]) (tmps : Array Value) (w : World) (g : Nat) (t : TypeId) (cs : Array Value) (fr : Nat × Nat) (d : TypeDesc)
  (hp : tmps.getD p undef = .pointer (some ⟨g, 0, none⟩)) (hg : w.heap[g]? = some (.cells cs t fr))
  (hu : P.underlying ty = some d) (hd : (match d with | .struct _ | .array _ _ => true | _ => false) = true) (hi : (P.info? ty).map (·.size) = some cs.size) :
  (results fn tmps).run P w = .ok (.tuple #[.agg cs, tmps.getD u undef]) w := by
 have hp' : tmps[p]?.getD undef = .pointer (some ⟨g, 0, none⟩) := by simpa using hp
 simp [results, h, hp', asAddr, run_loadVar_row w g t ty cs fr d hg hu hd hi]

theorem J93 {P : Program} {o : Oper} {a : Act} {w : World} {K : Act -> World -> Prop} {Q : Exit -> Act -> World -> Prop} (d s : Operand) (dT sT : TypeId)
  (ho : o.op = .call { callee := .builtin .copy, args := #[d, s], argTypes := #[dT, sT] }) (elem : TypeId) (hu : P.underlying dT = some (.slice elem)) (hsz : (P.info? elem).map (·.size) = some 1)
  (b off dLen dCap : Nat) (ad : Addr) (sLen sCap : Nat) (hd : a.eval d = .slice (some ⟨b, off, none⟩) dLen dCap) (hs : a.eval s = .slice (some ad) sLen sCap) (cs : List Value) (hn : cs.length = Nat.min sLen dLen)
  (hsrc : ∀ j v, cs[j]? = some v -> w.cell? (ad.add j) = some v) (hc : ∀ j, j < cs.length -> (w.cell? ⟨b, off + j, none⟩).isSome = true) (hf : ∀ j, j < cs.length -> w.frozen? ⟨b, off + j, none⟩ = false) (h1 : ∀ v ∈ cs, v.oneCell' = true)
  (h : K (a.put o.dst (goInt cs.length)) (w.setCells b off cs)) : Oper.wp P o a w K Q := by
 have hrun := run_copy_cells (P := P) w dT sT o.type elem b off dLen dCap ad sLen sCap cs hu hsz hn hsrc hc hf h1;unfold Oper.wp;simp [execOp, ho, resolve, invoke, builtin, hd, hs, hrun, Result.andThen];exact h

def intsN (f : Nat -> Int) (n : Nat) : List Value := (List.range n).map fun j => V (f j)
theorem J1s (f : Nat -> Int) (n : Nat) : (intsN f n).length = n := by simp [intsN]
theorem Jhm (f : Nat -> Int) (n j : Nat) (h : j < n) : (intsN f n)[j]? = some (V (f j)) := by simp [intsN, h]
theorem Jdd (f : Nat -> Int) (n : Nat) : intsN f (n + 1) = V (f 0) :: intsN (fun j => f (j + 1)) n := by simp [intsN, List.range_succ_eq_map]

theorem J0w (M : Nat) : ∀ (vs : List Value) (o : Nat) (w : World), w.grownBy (w.setCells M o vs) (some M)
 | [], o, w => J1l _ _
 | v :: vs, o, w => J1z (J1d w M o v) (J0w M vs (o + 1) _)

theorem MAt.fill {M : Nat} {rv cv : Value} : ∀ (n : Nat) (f : Nat -> Int) (k : Nat) (x : Ms) (w : World), MAt w M rv cv x -> k + n <= 384 ->
  ∃ W, MAt (w.setCells M (17 + k) (intsN f n)) M rv cv { x with wd := W } /\ (∀ j, j < n -> W (k + j) = f j) /\ (∀ j, j < k -> W j = x.wd j)
 | 0, f, k, x, w, h, _ => ⟨x.wd, h, fun j hj => by omega, fun j _ => rfl⟩
 | n + 1, f, k, x, w, h, hk => by
  obtain ⟨W, h1, h2, h3⟩ := MAt.fill n (fun j => f (j + 1)) (k + 1) { x with wd := setN x.wd k (f 0) } (w.setCell ⟨M, 17 + k, none⟩ (V (f 0))) (h.setWd k (by omega) (f 0)) (by omega);refine ⟨W, ?_, fun j hj => ?_, fun j hj => ?_⟩
  ·rw [Jdd]
   exact h1
  ·cases j with
   | zero =>
    have := h3 k (by omega);dsimp only at this;rw [Nat.add_zero, this];simp [setN]
   | succ j =>
    have := h2 j (by omega);rw [show k + (j + 1) = k + 1 + j by omega];exact this
  ·have := h3 j (by omega)
   dsimp only at this;rw [this];unfold setN;rw [if_neg (by omega)]

structure Nw (w wr : World) (rv cv : Value) (B : Nat) (m : Mem) (fuel : Int) (z : Array Value) (k : Nat) (W S : Nat -> Int) : Prop where
 more : More w wr
 lo : w.heap.size + 2 <= B
 at_ : MAt wr B rv cv { ms0 fuel with wd := W, st := S }
 st : ∀ j, j <= k -> S j = (baseN m.len j : Int)
 wd : ∀ j, j < k -> ∀ i, i < m.len j -> W (baseN m.len j + i) = m.wd j i
 res : wr.heap[w.heap.size + 1]? = some (.cells z 94 (0, 0))

theorem Nw.step {w wr : World} {rv cv : Value} {B : Nat} {m : Mem} {fuel : Int} {z : Array Value} {k : Nat} {W S : Nat -> Int} (h : Nw w wr rv cv B m fuel z k W S) (hk : k < 6) (hle : baseN m.len (k + 1) <= 384) (n : Int) (hn : n = (baseN m.len (k + 1) : Int)) :
  ∃ W' S', Nw w (((wr.drew).setCells B (17 + baseN m.len k) (intsN (m.wd k) (m.len k))).setCell ⟨B, 404 + (k + 1), none⟩ (V n)) rv cv B m fuel z (k + 1) W' S' := by
 subst hn;obtain ⟨W', h1, h2, h3⟩ := MAt.fill (m.len k) (m.wd k) (baseN m.len k) _ wr.drew h.at_.drew (by simpa [baseN] using hle);have hlo := h.lo
 have g0 : wr.grownBy (((wr.drew).setCells B (17 + baseN m.len k) (intsN (m.wd k) (m.len k))).setCell ⟨B, 404 + (k + 1), none⟩ (V (baseN m.len (k + 1) : Int))) (some B) :=
  J1q (J1z (J36 wr _) (J0w B _ _ _)) _ _
 refine ⟨W', setN S (k + 1) (baseN m.len (k + 1) : Int), h.more.grownBy g0 (fun b hb => by have := Option.some.inj hb; omega), h.lo, h1.setSt (k + 1) (by omega) _, fun j hj => ?_, fun j hj i hi => ?_, ?_⟩
 ·unfold setN
  by_cases e : j = k + 1
  ·rw [if_pos e, e]
  ·rw [if_neg e]; exact h.st j (by omega)
 ·by_cases e : j = k
  ·subst e; exact h2 i hi
  ·have hlt : baseN m.len j + i < baseN m.len k := by
    have := J33 m.len (j + 1) k (by omega);simp only [baseN] at this;omega
   rw [h3 _ hlt];exact h.wd j (by omega) i hi
 ·have hsz : w.heap.size + 1 < wr.heap.size := by
   rcases Nat.lt_or_ge (w.heap.size + 1) wr.heap.size with h' | h'
   ·exact h'
   ·have := h.res
    rw [Array.getElem?_eq_none h'] at this;cases this
  rw [g0.block (w.heap.size + 1) hsz (by simp; omega)];exact h.res
structure Tl where
 sc : Value
 mb : Nat
 puts : Nat -> Int
 ahead : Bool
 br : Nat -> Int
 bw : Nat -> Int
 bn : Int
 bp : Nat -> Int
 til : Int

def tlV (q : Tl) (j : Nat) : Value :=
 if j = 411 then q.sc else if j = 412 then .map (some q.mb) else if j < 797 then V (q.puts (j - 413)) else if j = 797 then .bool q.ahead
 else if j < 808 then V (q.br (j - 798)) else if j < 1192 then V (q.bw (j - 808)) else if j = 1192 then V q.bn else if j < 1577 then V (q.bp (j - 1193)) else V q.til
def tlF (q : Tl) (j : Nat) : Option Value := if j < 1578 then some (tlV q j) else none

theorem J7e (q : Tl) (j : Nat) (hj : j < 1578) : tlF q j = some (tlV q j) := by unfold tlF; rw [if_pos hj]
theorem J91 (q : Tl) (j : Nat) (hj : j < 384) : tlV q (413 + j) = V (q.puts j) := by
 unfold tlV;rw [if_neg (by omega), if_neg (by omega), if_pos (by omega), show 413 + j - 413 = j by omega]
theorem Jjt (q : Tl) (j : Nat) (hj : j < 10) : tlV q (798 + j) = V (q.br j) := by
 unfold tlV;rw [if_neg (by omega), if_neg (by omega), if_neg (by omega), if_neg (by omega), if_pos (by omega), show 798 + j - 798 = j by omega]
theorem Jju (q : Tl) (j : Nat) (hj : j < 384) : tlV q (808 + j) = V (q.bw j) := by
 unfold tlV;rw [if_neg (by omega), if_neg (by omega), if_neg (by omega), if_neg (by omega), if_neg (by omega), if_pos (by omega), show 808 + j - 808 = j by omega]
theorem Jjs (q : Tl) (j : Nat) (hj : j < 384) : tlV q (1193 + j) = V (q.bp j) := by
 unfold tlV;rw [if_neg (by omega), if_neg (by omega), if_neg (by omega), if_neg (by omega), if_neg (by omega), if_neg (by omega), if_neg (by omega), if_pos (by omega), show 1193 + j - 1193 = j by omega]

def stL (r wd : Nat -> Int) (n : Int) : List Value := (List.range 395).map fun j => if j < 10 then V (r j) else if j < 394 then V (wd (j - 10)) else V n
def puL (f : Nat -> Int) : List Value := (List.range 384).map fun j => V (f j)
theorem J0y (r wd : Nat -> Int) (n : Int) : (stL r wd n).length = 395 := by simp [stL]
theorem J1e (f : Nat -> Int) : (puL f).length = 384 := by simp [puL]
theorem J88 (r wd : Nat -> Int) (n : Int) (j : Nat) (hj : j < 395) : (stL r wd n)[j]? = some (if j < 10 then V (r j) else if j < 394 then V (wd (j - 10)) else V n) := by simp [stL, hj]
theorem Jct (f : Nat -> Int) (j : Nat) (hj : j < 384) : (puL f)[j]? = some (V (f j)) := by simp [puL, hj]
theorem Jg2 (r wd : Nat -> Int) (n : Int) : ∀ v ∈ stL r wd n, v.oneCell' = true := by
 intro v hv;simp only [stL, List.mem_map] at hv;obtain ⟨j, _, rfl⟩ := hv
 split
 ·rfl
 ·split <;> rfl
theorem Jfe (f : Nat -> Int) : ∀ v ∈ puL f, v.oneCell' = true := by
 intro v hv;simp only [puL, List.mem_map] at hv;obtain ⟨j, _, rfl⟩ := hv
 rfl

theorem MAt.splice {w : World} {M : Nat} {rv cv : Value} {x x' : Ms} (h : MAt w M rv cv x) (o : Nat) (vs : List Value) (hT : x'.T = x.T) (hfit : o + vs.length <= 411 \/ ∃ v, x.tl (o + vs.length - 1) = some v) (h0 : 0 < vs.length)
  (h1 : ∀ j, j < 411 -> (if o <= j /\ j < o + vs.length then vs[j - o]? else some (cellF rv cv x j)) = some (cellF rv cv x' j)) (h2 : ∀ j, 411 <= j -> (if o <= j /\ j < o + vs.length then vs[j - o]? else x.tl j) = x'.tl j) : MAt (w.setCells M o vs) M rv cv x' := by
 obtain ⟨c, hh, hc⟩ := h.out
 have hsz : o + vs.length <= c.size := by
  rcases hfit with h3 | ⟨v, hv⟩
  ·have := hc.big; omega
  ·by_cases e : o + vs.length <= 411
   ·have := hc.big; omega
   ·have h4 := hc.tail (o + vs.length - 1) (by omega)
    rw [hv] at h4;have := (Array.getElem?_eq_some_iff.1 h4).1;omega
 obtain ⟨c', k1, k2, k3⟩ := J3z vs o c w hh hsz;refine ⟨c', by rw [hT]; exact k1, by rw [k2]; exact hc.big, fun j hj => ?_, fun j hj => ?_⟩
 ·rw [k3 j, <- h1 j hj, hc.at_ j hj]
 ·rw [k3 j, <- h2 j hj, hc.tail j hj]

structure RunS (w : World) (M : Nat) (rv cv : Value) (x : Ms) (q : Tl) (se : List Se) : Prop where
 run : Run w M rv cv { x with T := 103, tl := tlF q } se

section
variable {w w' : World} {M : Nat} {rv cv : Value} {x x' : Ms} {q q' : Tl} {se : List Se}
theorem RunS.lt (h : RunS w M rv cv x q se) : M < w.heap.size := h.run.lt
theorem RunS.more (h : RunS w M rv cv x q se) (m : More w w') : RunS w' M rv cv x q se := ⟨h.run.more m⟩
theorem RunS.left (h : RunS w M rv cv x q se) {p : Nat × Obj} (hp : p ∈ x.mo) : w.heap[p.1]? = some p.2 := h.run.left hp
theorem RunS.beside (h : RunS w M rv cv x q se) (o : Obj) : RunS (w.alloc o) M rv cv { x with mo := (w.heap.size, o) :: x.mo } q se := ⟨h.run.beside o⟩
theorem RunS.fewer (h : RunS w M rv cv x q se) (l : List (Nat × Obj)) (hl : ∀ p ∈ l, p ∈ x.mo) : RunS w M rv cv { x with mo := l } q se := ⟨h.run.fewer l hl⟩
theorem RunS.drew (h : RunS w M rv cv x q se) : RunS w.drew M rv cv x q se := ⟨h.run.drew⟩
theorem RunS.kept (h : RunS w M rv cv x q se) {row : Option Nat} (hg : w.grownBy w' row) (hr : ∀ b, row = some b -> b < M) : RunS w' M rv cv x q se := ⟨h.run.kept hg hr⟩
theorem RunS.tlw (h : RunS w M rv cv x q se) (j : Nat) (h1 : 411 <= j) (h2 : j < 1578) : Wr w M j (tlV q j) := h.run.tlw j h1 _ (J7e q j h2)
theorem RunS.sc (h : RunS w M rv cv x q se) : Wr w M 411 q.sc := h.tlw 411 (by omega) (by omega)
theorem RunS.map (h : RunS w M rv cv x q se) : Wr w M 412 (.map (some q.mb)) := h.tlw 412 (by omega) (by omega)
theorem RunS.puts (h : RunS w M rv cv x q se) (j : Nat) (hj : j < 384) : Wr w M (413 + j) (V (q.puts j)) := by have := h.tlw (413 + j) (by omega) (by omega); rw [J91 q j hj] at this; exact this
theorem RunS.ahead (h : RunS w M rv cv x q se) : Wr w M 797 (.bool q.ahead) := h.tlw 797 (by omega) (by omega)
theorem RunS.til (h : RunS w M rv cv x q se) : Wr w M 1577 (V q.til) := h.tlw 1577 (by omega) (by omega)

theorem RunS.setTl (h : RunS w M rv cv x q se) (j : Nat) (v : Value) (hj : 411 <= j) (hj2 : j < 1578) (hq : ∀ i, i < 1578 -> 411 <= i -> tlV q' i = if i = j then v else tlV q i) : RunS (w.setCell ⟨M, j, none⟩ v) M rv cv x q' se := by
 refine ⟨h.run.setTl j v (tlV q j) (tlF q') hj (J7e q j hj2) (fun i hi => ?_)⟩;show tlF q' i = if i = j then some v else tlF q i
 unfold tlF;by_cases e : i < 1578
 ·rw [if_pos e, if_pos e, hq i e hi]
  split <;> rfl
 ·rw [if_neg e, if_neg e, if_neg (by omega)]
theorem RunS.setSc (h : RunS w M rv cv x q se) (v : Value) : RunS (w.setCell ⟨M, 411, none⟩ v) M rv cv x { q with sc := v } se :=
 h.setTl 411 v (by omega) (by omega) fun i hi h1 => by unfold tlV; by_cases e : i = 411 <;> simp [e]
theorem RunS.setAhead (h : RunS w M rv cv x q se) (b : Bool) : RunS (w.setCell ⟨M, 797, none⟩ (.bool b)) M rv cv x { q with ahead := b } se :=
 h.setTl 797 _ (by omega) (by omega) fun i hi h1 => by unfold tlV; by_cases e : i = 797 <;> simp [e]
theorem RunS.setTil (h : RunS w M rv cv x q se) (n : Int) : RunS (w.setCell ⟨M, 1577, none⟩ (V n)) M rv cv x { q with til := n } se :=
 h.setTl 1577 _ (by omega) (by omega) fun i hi h1 => by
  unfold tlV;by_cases e : i = 1577
  ·simp [e]
  ·simp [e, show i < 1577 by omega]
theorem RunS.setPut (h : RunS w M rv cv x q se) (k : Nat) (hk : k < 384) (n : Int) : RunS (w.setCell ⟨M, 413 + k, none⟩ (V n)) M rv cv x { q with puts := setN q.puts k n } se :=
 h.setTl (413 + k) _ (by omega) (by omega) fun i hi h1 => by
  by_cases e : i = 413 + k
  ·subst e; rw [if_pos rfl, J91 _ k hk]; simp [setN]
  ·rw [if_neg e]
   unfold tlV setN;by_cases e1 : i < 413
   ·have : i = 411 \/ i = 412 := by omega
    rcases this with rfl | rfl <;> simp
   ·have e2 : ¬ i - 413 = k := by omega
    simp [e2]

theorem RunS.splice (h : RunS w M rv cv x q se) (o : Nat) (vs : List Value) (h0 : 0 < vs.length) (hsz : o + vs.length <= 1578)
  (h1 : ∀ sv j, j < 411 -> (if o <= j /\ j < o + vs.length then vs[j - o]? else some (cellF rv cv { x with sv := sv } j)) = some (cellF rv cv { x' with sv := sv } j))
  (h2 : ∀ j, 411 <= j -> j < 1578 -> (if o <= j /\ j < o + vs.length then vs[j - o]? else some (tlV q j)) = some (tlV q' j)) (hmo : x'.mo = x.mo) : RunS (w.setCells M o vs) M rv cv x' q' se := by
 obtain ⟨sv, hm, ho, hk⟩ := h.run.out;refine ⟨⟨sv, hm.splice o vs rfl ?_ h0 (fun j hj => h1 sv j hj) (fun j hj => ?_), ho.kept (J0w M vs o w) (fun b hb => by have := Option.some.inj hb; omega), fun p e => ?_⟩⟩
 ·right
  exact ⟨_, J7e q _ (by omega)⟩
 ·show (if o <= j /\ j < o + vs.length then vs[j - o]? else tlF q j) = tlF q' j
  by_cases e : j < 1578
  ·rw [J7e q j e, J7e q' j e]; exact h2 j hj e
  ·unfold tlF
   rw [if_neg (by omega), if_neg e, if_neg e]
 ·have e2 : p ∈ x.mo := by rw [<- hmo]; exact e
  have hp := hk p e2;exact ⟨hp.1, hp.2.1, by rw [(J0w M vs o w).block p.1 (J16 hp.2.2) (fun e' => by have := Option.some.inj e'; have := hp.1; omega)]; exact hp.2.2⟩

theorem RunS.setState (h : RunS w M rv cv x q se) (r wd : Nat -> Int) (n : Int) : RunS (w.setCells M 7 (stL r wd n)) M rv cv { x with r := r, wd := wd, next := n } q se := by
 refine h.splice 7 _ (by rw [J0y]; omega) (by rw [J0y]; omega) (fun sv j hj => ?_) (fun j hj h1 => ?_) rfl
 ·rw [J0y]
  by_cases e : 7 <= j /\ j < 7 + 395
  ·rw [if_pos e, J88 _ _ _ _ (by omega)]
   by_cases e1 : j < 17
   ·obtain ⟨k, rfl⟩ : ∃ k, j = 7 + k := ⟨j - 7, by omega⟩
    rw [if_pos (by omega), Jak _ _ _ k (by omega), show 7 + k - 7 = k by omega]
   by_cases e2 : j < 401
   ·obtain ⟨k, rfl⟩ : ∃ k, j = 17 + k := ⟨j - 17, by omega⟩
    rw [if_neg (by omega), if_pos (by omega), J8e _ _ _ k (by omega), show 17 + k - 7 - 10 = k by omega]
   obtain rfl : j = 401 := by omega
   rfl
  ·rw [if_neg e]
   unfold cellF;by_cases e1 : j < 7
   ·have : j = 0 \/ j = 1 \/ j = 2 \/ j = 3 \/ j = 4 \/ j = 5 \/ j = 6 := by omega
    rcases this with rfl | rfl | rfl | rfl | rfl | rfl | rfl <;> simp
   ·simp [show ¬ j = 0 by omega, show ¬ j = 1 by omega, show ¬ j = 2 by omega, show ¬ j = 3 by omega, show ¬ j = 4 by omega, show ¬ j = 5 by omega, show ¬ j = 6 by omega, show ¬ j < 17 by omega, show ¬ j < 401 by omega, show ¬ j = 401 by omega]
 ·rw [J0y, if_neg (by omega)]

theorem RunS.setPuts (h : RunS w M rv cv x q se) (f : Nat -> Int) : RunS (w.setCells M 413 (puL f)) M rv cv x { q with puts := f } se := by
 refine h.splice 413 _ (by rw [J1e]; omega) (by rw [J1e]; omega) (fun sv j hj => ?_) (fun j hj h1 => ?_) rfl
 ·rw [if_neg (by omega)]
 ·rw [J1e]
  by_cases e : 413 <= j /\ j < 413 + 384
  ·obtain ⟨k, rfl⟩ : ∃ k, j = 413 + k := ⟨j - 413, by omega⟩
   rw [if_pos e, Jct _ _ (by omega), J91 _ k (by omega), show 413 + k - 413 = k by omega]
  ·rw [if_neg e]
   unfold tlV;by_cases e1 : j < 413
   ·have : j = 411 \/ j = 412 := by omega
    rcases this with rfl | rfl <;> simp
   ·simp [show ¬ j = 411 by omega, show ¬ j = 412 by omega, show ¬ j < 797 by omega]

theorem RunS.setBack (h : RunS w M rv cv x q se) (r wd : Nat -> Int) (n : Int) (f : Nat -> Int) : RunS (w.setCells M 798 (stL r wd n ++ puL f)) M rv cv x { q with br := r, bw := wd, bn := n, bp := f } se := by
 have hl : (stL r wd n ++ puL f).length = 779 := by rw [List.length_append, J0y, J1e]
 refine h.splice 798 _ (by rw [hl]; omega) (by rw [hl]; omega) (fun sv j hj => ?_) (fun j hj h1 => ?_) rfl
 ·rw [if_neg (by omega)]
 ·rw [hl]
  by_cases e : 798 <= j /\ j < 798 + 779
  ·rw [if_pos e, List.getElem?_append, J0y]
   by_cases e1 : j < 808
   ·obtain ⟨k, rfl⟩ : ∃ k, j = 798 + k := ⟨j - 798, by omega⟩
    rw [if_pos (by omega), J88 _ _ _ _ (by omega), if_pos (by omega), Jjt _ k (by omega), show 798 + k - 798 = k by omega]
   by_cases e2 : j < 1192
   ·obtain ⟨k, rfl⟩ : ∃ k, j = 808 + k := ⟨j - 808, by omega⟩
    rw [if_pos (by omega), J88 _ _ _ _ (by omega), if_neg (by omega), if_pos (by omega), Jju _ k (by omega), show 808 + k - 798 - 10 = k by omega]
   by_cases e3 : j = 1192
   ·subst e3
    rw [if_pos (by omega), J88 _ _ _ _ (by omega)]
    rfl
   ·obtain ⟨k, rfl⟩ : ∃ k, j = 1193 + k := ⟨j - 1193, by omega⟩
    rw [if_neg (by omega), Jct _ _ (by omega), Jjs _ k (by omega), show 1193 + k - 798 - 395 = k by omega]
  ·rw [if_neg e]
   unfold tlV;by_cases e1 : j < 798
   ·have : j = 411 \/ j = 412 \/ (¬ j = 411 /\ ¬ j = 412 /\ j < 797) \/ j = 797 := by omega
    rcases this with rfl | rfl | h3 | rfl
    ·simp
    ·simp
    ·simp [h3]
    ·simp
   ·simp [show ¬ j = 411 by omega, show ¬ j = 412 by omega, show ¬ j < 797 by omega, show ¬ j = 797 by omega, show ¬ j < 808 by omega, show ¬ j < 1192 by omega, show ¬ j = 1192 by omega, show ¬ j < 1577 by omega]

theorem RunS.stateC (h : RunS w M rv cv x q se) : ∀ j v, (stL x.r x.wd x.next)[j]? = some v -> w.cell? ⟨M, 7 + j, none⟩ = some v := by
 intro j v hv;have hj : j < 395 := by have := (List.getElem?_eq_some_iff.1 hv).1; rw [J0y] at this; exact this
 rw [J88 _ _ _ _ hj] at hv;rw [<- hv];by_cases e1 : j < 10
 ·rw [if_pos e1]; exact (h.run.r j e1).1
 rw [if_neg e1];by_cases e2 : j < 394
 ·rw [if_pos e2]
  have := (h.run.wd (j - 10) (by omega)).1;rw [show 17 + (j - 10) = 7 + j by omega] at this;exact this
 rw [if_neg e2];obtain rfl : j = 394 := by omega
 exact h.run.next.1
theorem RunS.putsC (h : RunS w M rv cv x q se) : ∀ j v, (puL q.puts)[j]? = some v -> w.cell? ⟨M, 413 + j, none⟩ = some v := by
 intro j v hv;have hj : j < 384 := by have := (List.getElem?_eq_some_iff.1 hv).1; rw [J1e] at this; exact this
 rw [Jct _ _ hj] at hv;rw [<- hv];exact (h.puts j hj).1
theorem RunS.backS (h : RunS w M rv cv x q se) : ∀ j v, (stL q.br q.bw q.bn)[j]? = some v -> w.cell? ⟨M, 798 + j, none⟩ = some v := by
 intro j v hv;have hj : j < 395 := by have := (List.getElem?_eq_some_iff.1 hv).1; rw [J0y] at this; exact this
 rw [J88 _ _ _ _ hj] at hv;rw [<- hv];have := (h.tlw (798 + j) (by omega) (by omega)).1;rw [this];by_cases e1 : j < 10
 ·rw [if_pos e1, Jjt q j e1]
 rw [if_neg e1];by_cases e2 : j < 394
 ·rw [if_pos e2, show 798 + j = 808 + (j - 10) by omega, Jju q _ (by omega)]
 rw [if_neg e2];obtain rfl : j = 394 := by omega
 rfl
theorem RunS.backP (h : RunS w M rv cv x q se) : ∀ j v, (puL q.bp)[j]? = some v -> w.cell? ⟨M, 1193 + j, none⟩ = some v := by
 intro j v hv;have hj : j < 384 := by have := (List.getElem?_eq_some_iff.1 hv).1; rw [J1e] at this; exact this
 rw [Jct _ _ hj] at hv;rw [<- hv];have := (h.tlw (1193 + j) (by omega) (by omega)).1;rw [this, Jjs q j hj]
theorem RunS.any (h : RunS w M rv cv x q se) (j : Nat) (hj : j < 1578) : ∃ v, Wr w M j v := by
 by_cases e : j < 411
 ·obtain ⟨sv, hm, _⟩ := h.run.out
  exact ⟨_, hm.wr j e⟩
 ·exact ⟨_, h.tlw j (by omega) hj⟩
end
end
end Go.Proofs.YtapagihngaiebaaGreat
