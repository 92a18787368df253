/-
  The texts Named, FieldsAll, Code, CvCheck, Shape, InsBox, InsA, InsB, InsC, InsD, RefForm, Way, CvTold, HdLk, HdDoes, HdLike, LdShape, WdPlain, LdFit, SpecAlike, SpecMore, StepS, Flat, FdPlain, RAux, DrRun, DrPlain, one behind the other, with what is used of them.
-/
import Derived.Test.YtephohhigbfafaaGreatDoorRows
import Derived.WalkKit
import Derived.Test.YtephohhigbfafaaGreatDoorJoined0
import Derived.Test.YtephohhigbfafaaGreatDoorJoined4
import Derived.Deep.LoopGhost
import Derived.Test.YtephohhigbfafaaGreatDoorJoined2
import Derived.Test.YtephohhigbfafaaGreatDoorJoined1
import Derived.Laws.IdiomCopy
import Derived.Test.YtephohhigbfafaaGreatDoorJoined3
namespace Go.Proofs.YtephohhigbfafaaGreatDoor
set_option maxHeartbeats 4000000
section
open Go.RowKit
def J1o(op a b c n:Int):Prop:=
 if op=1 then b=0/\c=0
 else if op=2 then c=0/\n=0
 else if op=3 then True
 else if op=4 then True
 else if op=5 then b=0
 else if op=6 then b=0
 else if op=7 then a=0/\b=0/\c=0
 else if op=8 then True
 else if op=9 then b=0/\c=0/\n=0
 else if op=10 then c=0
 else if op=11 then b=0/\c=0
 else if op=12 then a=0/\b=0/\c=0/\n=0
 else n=0

theorem Jnp(a b c n:Int)(w:World):
  Calls Tryz.prog 126 #[.agg #[V 1,V a,V b,V c,V n]] w fun e w'=>e=.returned (.agg #[V 1,V a,V 0,V 0,V n])/\More w w':=by
 go_enter Tryz.func126,Tryz.ntmps126;go_wp2;exact bodyPost_ret (by simp[results,Tryz.results126,go_sem]) rfl ⟨rfl,((More.refl _).alloc _ _).alloc _ _⟩

theorem Jnq(a b c n:Int)(w:World):
  Calls Tryz.prog 126 #[.agg #[V 2,V a,V b,V c,V n]] w fun e w'=>e=.returned (.agg #[V 2,V a,V b,V 0,V 0])/\More w w':=by
 go_enter Tryz.func126,Tryz.ntmps126;go_wp2;exact bodyPost_ret (by simp[results,Tryz.results126,go_sem]) rfl ⟨rfl,((More.refl _).alloc _ _).alloc _ _⟩

theorem Jnr(a b c n:Int)(w:World):
  Calls Tryz.prog 126 #[.agg #[V 3,V a,V b,V c,V n]] w fun e w'=>e=.returned (.agg #[V 3,V a,V b,V c,V n])/\More w w':=by
 go_enter Tryz.func126,Tryz.ntmps126;go_wp2;exact bodyPost_ret (by simp[results,Tryz.results126,go_sem]) rfl ⟨rfl,((More.refl _).alloc _ _).alloc _ _⟩

theorem Jns(a b c n:Int)(w:World):
  Calls Tryz.prog 126 #[.agg #[V 4,V a,V b,V c,V n]] w fun e w'=>e=.returned (.agg #[V 4,V a,V b,V c,V n])/\More w w':=by
 go_enter Tryz.func126,Tryz.ntmps126;go_wp2;exact bodyPost_ret (by simp[results,Tryz.results126,go_sem]) rfl ⟨rfl,((More.refl _).alloc _ _).alloc _ _⟩

theorem Jnt(a b c n:Int)(w:World):
  Calls Tryz.prog 126 #[.agg #[V 5,V a,V b,V c,V n]] w fun e w'=>e=.returned (.agg #[V 5,V a,V 0,V c,V n])/\More w w':=by
 go_enter Tryz.func126,Tryz.ntmps126;go_wp2;exact bodyPost_ret (by simp[results,Tryz.results126,go_sem]) rfl ⟨rfl,((More.refl _).alloc _ _).alloc _ _⟩

theorem Jnu(a b c n:Int)(w:World):
  Calls Tryz.prog 126 #[.agg #[V 6,V a,V b,V c,V n]] w fun e w'=>e=.returned (.agg #[V 6,V a,V 0,V c,V n])/\More w w':=by
 go_enter Tryz.func126,Tryz.ntmps126;go_wp2;exact bodyPost_ret (by simp[results,Tryz.results126,go_sem]) rfl ⟨rfl,((More.refl _).alloc _ _).alloc _ _⟩

theorem Jnv(a b c n:Int)(w:World):
  Calls Tryz.prog 126 #[.agg #[V 7,V a,V b,V c,V n]] w fun e w'=>e=.returned (.agg #[V 7,V 0,V 0,V 0,V n])/\More w w':=by
 go_enter Tryz.func126,Tryz.ntmps126;go_wp2;exact bodyPost_ret (by simp[results,Tryz.results126,go_sem]) rfl ⟨rfl,((More.refl _).alloc _ _).alloc _ _⟩

theorem Jnw(a b c n:Int)(w:World):
  Calls Tryz.prog 126 #[.agg #[V 8,V a,V b,V c,V n]] w fun e w'=>e=.returned (.agg #[V 8,V a,V b,V c,V n])/\More w w':=by
 go_enter Tryz.func126,Tryz.ntmps126;go_wp2;exact bodyPost_ret (by simp[results,Tryz.results126,go_sem]) rfl ⟨rfl,((More.refl _).alloc _ _).alloc _ _⟩

theorem Jnx(a b c n:Int)(w:World):
  Calls Tryz.prog 126 #[.agg #[V 9,V a,V b,V c,V n]] w fun e w'=>e=.returned (.agg #[V 9,V a,V 0,V 0,V 0])/\More w w':=by
 go_enter Tryz.func126,Tryz.ntmps126;go_wp2;exact bodyPost_ret (by simp[results,Tryz.results126,go_sem]) rfl ⟨rfl,((More.refl _).alloc _ _).alloc _ _⟩

theorem Jla(a b c n:Int)(w:World):
  Calls Tryz.prog 126 #[.agg #[V 10,V a,V b,V c,V n]] w fun e w'=>e=.returned (.agg #[V 10,V a,V b,V 0,V n])/\More w w':=by
 go_enter Tryz.func126,Tryz.ntmps126;go_wp2;exact bodyPost_ret (by simp[results,Tryz.results126,go_sem]) rfl ⟨rfl,((More.refl _).alloc _ _).alloc _ _⟩

theorem Jlb(a b c n:Int)(w:World):
  Calls Tryz.prog 126 #[.agg #[V 11,V a,V b,V c,V n]] w fun e w'=>e=.returned (.agg #[V 11,V a,V 0,V 0,V n])/\More w w':=by
 go_enter Tryz.func126,Tryz.ntmps126;go_wp2;exact bodyPost_ret (by simp[results,Tryz.results126,go_sem]) rfl ⟨rfl,((More.refl _).alloc _ _).alloc _ _⟩

theorem Jlc(a b c n:Int)(w:World):
  Calls Tryz.prog 126 #[.agg #[V 12,V a,V b,V c,V n]] w fun e w'=>e=.returned (.agg #[V 12,V 0,V 0,V 0,V 0])/\More w w':=by
 go_enter Tryz.func126,Tryz.ntmps126;go_wp2;exact bodyPost_ret (by simp[results,Tryz.results126,go_sem]) rfl ⟨rfl,((More.refl _).alloc _ _).alloc _ _⟩

theorem Jha(op a b c n:Int)(h1:¬op=1)(h2:¬op=2)(h3:¬op=3)(h4:¬op=4)(h5:¬op=5)(h6:¬op=6)(h7:¬op=7)(h8:¬op=8)(h9:¬op=9)(h10:¬op=10)(h11:¬op=11)(h12:¬op=12)(w:World):
  Calls Tryz.prog 126 #[.agg #[V op,V a,V b,V c,V n]] w fun e w'=>e=.returned (.agg #[V op,V a,V b,V c,V 0])/\More w w':=by
 go_enter Tryz.func126,Tryz.ntmps126;go_wp2;exact bodyPost_ret (by simp[results,Tryz.results126,go_sem]) rfl ⟨rfl,((More.refl _).alloc _ _).alloc _ _⟩

theorem Jeh(op a b c n:Int)(w:World):
  Calls Tryz.prog 126 #[.agg #[V op,V a,V b,V c,V n]] w fun e w'=>
   ∃a' b' c' n':Int,e=.returned (.agg #[V op,V a',V b',V c',V n'])/\((a=a'/\b=b'/\c=c'/\n=n')↔J1o op a b c n)/\More w w':=by
 by_cases h1:op=1
 ·subst h1
  refine(Jnp a b c n w).mono fun e w' h=>⟨a,0,0,n,h.1,?_,h.2⟩
  unfold J1o;simp
 by_cases h2:op=2
 ·subst h2
  refine(Jnq a b c n w).mono fun e w' h=>⟨a,b,0,0,h.1,?_,h.2⟩
  unfold J1o;simp
 by_cases h3:op=3
 ·subst h3
  refine(Jnr a b c n w).mono fun e w' h=>⟨a,b,c,n,h.1,?_,h.2⟩
  unfold J1o;simp
 by_cases h4:op=4
 ·subst h4
  refine(Jns a b c n w).mono fun e w' h=>⟨a,b,c,n,h.1,?_,h.2⟩
  unfold J1o;simp
 by_cases h5:op=5
 ·subst h5
  refine(Jnt a b c n w).mono fun e w' h=>⟨a,0,c,n,h.1,?_,h.2⟩
  unfold J1o;simp
 by_cases h6:op=6
 ·subst h6
  refine(Jnu a b c n w).mono fun e w' h=>⟨a,0,c,n,h.1,?_,h.2⟩
  unfold J1o;simp
 by_cases h7:op=7
 ·subst h7
  refine(Jnv a b c n w).mono fun e w' h=>⟨0,0,0,n,h.1,?_,h.2⟩
  unfold J1o;simp
 by_cases h8:op=8
 ·subst h8
  refine(Jnw a b c n w).mono fun e w' h=>⟨a,b,c,n,h.1,?_,h.2⟩
  unfold J1o;simp
 by_cases h9:op=9
 ·subst h9
  refine(Jnx a b c n w).mono fun e w' h=>⟨a,0,0,0,h.1,?_,h.2⟩
  unfold J1o;simp
 by_cases h10:op=10
 ·subst h10
  refine(Jla a b c n w).mono fun e w' h=>⟨a,b,0,n,h.1,?_,h.2⟩
  unfold J1o;simp
 by_cases h11:op=11
 ·subst h11
  refine(Jlb a b c n w).mono fun e w' h=>⟨a,0,0,n,h.1,?_,h.2⟩
  unfold J1o;simp
 by_cases h12:op=12
 ·subst h12
  refine(Jlc a b c n w).mono fun e w' h=>⟨0,0,0,0,h.1,?_,h.2⟩
  unfold J1o;simp
 refine(Jha op a b c n h1 h2 h3 h4 h5 h6 h7 h8 h9 h10 h11 h12 w).mono fun e w' h=>⟨a,b,c,0,h.1,?_,h.2⟩
 unfold J1o;rw[if_neg h1,if_neg h2,if_neg h3,if_neg h4,if_neg h5,if_neg h6,if_neg h7,if_neg h8,if_neg h9,if_neg h10,if_neg h11,if_neg h12]
 simp
theorem Jea(rl:Nat)(log:Nat->Int)(cl:Nat)(regs op a b c n:Int):InsOk rl log cl regs ⟨op,a,b,c,n⟩↔J1o op a b c n/\J53 rl log cl regs op a b c n:=by
 unfold InsOk J1o J53 Btw;dsimp only;by_cases h1:op=1
 ·rw[if_pos h1,if_pos h1,if_pos h1];exact⟨fun h=>⟨⟨h.2.1,h.2.2⟩,h.1⟩,fun h=>⟨h.2,h.1.1,h.1.2⟩⟩
 rw[if_neg h1,if_neg h1,if_neg h1];by_cases h2:op=2
 ·rw[if_pos h2,if_pos h2,if_pos h2];exact⟨fun h=>⟨⟨h.2.2.1,h.2.2.2⟩,h.1,h.2.1⟩,fun h=>⟨h.2.1,h.2.2,h.1.1,h.1.2⟩⟩
 rw[if_neg h2,if_neg h2,if_neg h2];by_cases h3:op=3
 ·rw[if_pos h3,if_pos h3,if_pos h3];exact⟨fun h=>⟨trivial,⟨h.1,h.2.1⟩,h.2.2⟩,fun h=>⟨h.2.1.1,h.2.1.2,h.2.2⟩⟩
 rw[if_neg h3,if_neg h3,if_neg h3];by_cases h4:op=4
 ·rw[if_pos h4,if_pos h4,if_pos h4];exact⟨fun h=>⟨trivial,⟨h.1,h.2.1⟩,h.2.2⟩,fun h=>⟨h.2.1.1,h.2.1.2,h.2.2⟩⟩
 rw[if_neg h4,if_neg h4,if_neg h4];by_cases h5:op=5
 ·rw[if_pos h5,if_pos h5,if_pos h5];exact⟨fun h=>⟨h.2.1,h.1,h.2.2.1,h.2.2.2⟩,fun h=>⟨h.2.1,h.1,h.2.2.1,h.2.2.2⟩⟩
 rw[if_neg h5,if_neg h5,if_neg h5];by_cases h6:op=6
 ·rw[if_pos h6,if_pos h6,if_pos h6];exact⟨fun h=>⟨h.2.1,h.1,h.2.2.1,h.2.2.2⟩,fun h=>⟨h.2.1,h.1,h.2.2.1,h.2.2.2⟩⟩
 rw[if_neg h6,if_neg h6,if_neg h6];by_cases h7:op=7
 ·rw[if_pos h7,if_pos h7,if_pos h7];exact⟨fun h=>⟨⟨h.1,h.2.1,h.2.2.1⟩,h.2.2.2⟩,fun h=>⟨h.1.1,h.1.2.1,h.1.2.2,h.2⟩⟩
 rw[if_neg h7,if_neg h7,if_neg h7];by_cases h8:op=8
 ·rw[if_pos h8,if_pos h8,if_pos h8];exact⟨fun h=>⟨trivial,⟨h.1,h.2.1⟩,h.2.2.1,h.2.2.2⟩,fun h=>⟨h.2.1.1,h.2.1.2,h.2.2.1,h.2.2.2⟩⟩
 rw[if_neg h8,if_neg h8,if_neg h8];by_cases h9:op=9
 ·rw[if_pos h9,if_pos h9,if_pos h9];exact⟨fun h=>⟨⟨h.2.1,h.2.2.1,h.2.2.2⟩,h.1⟩,fun h=>⟨h.2,h.1.1,h.1.2.1,h.1.2.2⟩⟩
 rw[if_neg h9,if_neg h9,if_neg h9];by_cases h10:op=10
 ·rw[if_pos h10,if_pos h10,if_pos h10];exact⟨fun h=>⟨h.2.2,h.1,h.2.1⟩,fun h=>⟨h.2.1,h.2.2,h.1⟩⟩
 rw[if_neg h10,if_neg h10,if_neg h10];by_cases h11:op=11
 ·rw[if_pos h11,if_pos h11,if_pos h11];exact⟨fun h=>⟨⟨h.2.1,h.2.2.1⟩,h.1,h.2.2.2.1,h.2.2.2.2⟩,fun h=>⟨h.2.1,h.1.1,h.1.2,h.2.2.1,h.2.2.2⟩⟩
 rw[if_neg h11,if_neg h11,if_neg h11];by_cases h12:op=12
 ·rw[if_pos h12,if_pos h12,if_pos h12];exact⟨fun h=>⟨h,trivial⟩,fun h=>h.1⟩
 rw[if_neg h12,if_neg h12,if_neg h12];exact⟨fun h=>⟨h.2.2.2.2,h.1,h.2.1,h.2.2.1,h.2.2.2.1⟩,fun h=>⟨h.2.1,h.2.2.1,h.2.2.2.1,h.2.2.2.2,h.1⟩⟩

theorem Jkn(ra:Option Addr)(rl rc:Nat)(ca:Option Addr)(cl cc:Nat)(code regs:Int)(a b c n:Int)(rb ro:Nat)(log:Nat->Int)(sec:Nat->Bool)(w:World)
  (hra:0 < rl->ra=some ⟨rb,ro,none⟩) (hr:RegsAt w rb ro rl log sec) (hok:J0r rl log):
  Calls Tryz.prog 127 #[.agg #[.slice ra rl rc,.slice ca cl cc,V code,V regs],.agg #[V 5,V a,V b,V c,V n]] w (Says (Reg regs a/\Rgn rl c/\Wrd log c n) w):=by
 by_cases hA:Reg regs a
 ·by_cases hC:Rgn rl c
  ·have h0:=hC.1
   have h1:=hC.2;obtain rfl:=hra (by omega);have hk:c.toNat < rl:=by omega
   refine(J69 5 (by decide) rb ro rl rc ca cl cc code regs a b c n (log c.toNat) (J0h (log c.toNat)) (sec c.toNat) w h0 h1 (hr _ hk).1 (hr _ hk).2
    (fun g cp w h=>(J22 _ rl rc ca cl cc code regs g cp a w h).mono fun _ _ s=>s.is_yes hA)
    (fun w=>(J28 _ rl rc ca cl cc code regs c w).mono fun _ _ s=>s.is_yes hC)
    (fun w=>J9a _ (hok.2 _ hk).1 (hok.2 _ hk).2 _ w)).mono ?_
   rintro e w' ⟨r,rfl,h,m⟩;exact⟨r,rfl,h.trans ⟨fun h=>⟨hA,hC,h⟩,fun h=>h.2.2⟩,m⟩
  ·refine(J4k 5 (by decide) ra rl rc ca cl cc code regs a b c n w
    (fun g cp w h=>(J22 _ rl rc ca cl cc code regs g cp a w h).mono fun _ _ s=>s.is_yes hA)
    (fun w=>(J28 _ rl rc ca cl cc code regs c w).mono fun _ _ s=>s.is_no hC)).mono ?_
   rintro e w' ⟨rfl,m⟩;exact Says.no (fun h=>hC h.2.1) m
 ·refine(J4j 5 (by decide) ra rl rc ca cl cc code regs a b c n w
   (fun g cp w h=>(J22 _ rl rc ca cl cc code regs g cp a w h).mono fun _ _ s=>s.is_no hA)).mono ?_
  rintro e w' ⟨rfl,m⟩;exact Says.no (fun h=>hA h.1) m

theorem Jko(ra:Option Addr)(rl rc:Nat)(ca:Option Addr)(cl cc:Nat)(code regs:Int)(a b c n:Int)(rb ro:Nat)(log:Nat->Int)(sec:Nat->Bool)(w:World)
  (hra:0 < rl->ra=some ⟨rb,ro,none⟩) (hr:RegsAt w rb ro rl log sec) (hok:J0r rl log):
  Calls Tryz.prog 127 #[.agg #[.slice ra rl rc,.slice ca cl cc,V code,V regs],.agg #[V 6,V a,V b,V c,V n]] w (Says (Reg regs a/\Rgn rl c/\Wrd log c n) w):=by
 by_cases hA:Reg regs a
 ·by_cases hC:Rgn rl c
  ·have h0:=hC.1
   have h1:=hC.2;obtain rfl:=hra (by omega);have hk:c.toNat < rl:=by omega
   refine(J69 6 (by decide) rb ro rl rc ca cl cc code regs a b c n (log c.toNat) (J0h (log c.toNat)) (sec c.toNat) w h0 h1 (hr _ hk).1 (hr _ hk).2
    (fun g cp w h=>(J22 _ rl rc ca cl cc code regs g cp a w h).mono fun _ _ s=>s.is_yes hA)
    (fun w=>(J28 _ rl rc ca cl cc code regs c w).mono fun _ _ s=>s.is_yes hC)
    (fun w=>J9a _ (hok.2 _ hk).1 (hok.2 _ hk).2 _ w)).mono ?_
   rintro e w' ⟨r,rfl,h,m⟩;exact⟨r,rfl,h.trans ⟨fun h=>⟨hA,hC,h⟩,fun h=>h.2.2⟩,m⟩
  ·refine(J4k 6 (by decide) ra rl rc ca cl cc code regs a b c n w
    (fun g cp w h=>(J22 _ rl rc ca cl cc code regs g cp a w h).mono fun _ _ s=>s.is_yes hA)
    (fun w=>(J28 _ rl rc ca cl cc code regs c w).mono fun _ _ s=>s.is_no hC)).mono ?_
   rintro e w' ⟨rfl,m⟩;exact Says.no (fun h=>hC h.2.1) m
 ·refine(J4j 6 (by decide) ra rl rc ca cl cc code regs a b c n w
   (fun g cp w h=>(J22 _ rl rc ca cl cc code regs g cp a w h).mono fun _ _ s=>s.is_no hA)).mono ?_
  rintro e w' ⟨rfl,m⟩;exact Says.no (fun h=>hA h.1) m

theorem Jcc(ra:Option Addr)(rl rc:Nat)(ca:Option Addr)(cl cc:Nat)(code regs:Int)(op a b c n:Int)(rb ro:Nat)(log:Nat->Int)(sec:Nat->Bool)(w:World)
  (hra:0 < rl->ra=some ⟨rb,ro,none⟩) (hr:RegsAt w rb ro rl log sec) (hok:J0r rl log):
  Calls Tryz.prog 127 #[.agg #[.slice ra rl rc,.slice ca cl cc,V code,V regs],.agg #[V op,V a,V b,V c,V n]] w (Says (J53 rl log cl regs op a b c n) w):=by
 unfold J53;by_cases h1:op=1
 ·rw[if_pos h1];subst h1;exact Jkj ra rl rc ca cl cc code regs a b c n w
 rw[if_neg h1];by_cases h2:op=2
 ·rw[if_pos h2];subst h2;exact Jkk ra rl rc ca cl cc code regs a b c n w
 rw[if_neg h2];by_cases h3:op=3
 ·rw[if_pos h3];subst h3;exact Jkl ra rl rc ca cl cc code regs a b c n w
 rw[if_neg h3];by_cases h4:op=4
 ·rw[if_pos h4];subst h4;exact Jkm ra rl rc ca cl cc code regs a b c n w
 rw[if_neg h4];by_cases h5:op=5
 ·rw[if_pos h5];subst h5;exact Jkn ra rl rc ca cl cc code regs a b c n rb ro log sec w hra hr hok
 rw[if_neg h5];by_cases h6:op=6
 ·rw[if_pos h6];subst h6;exact Jko ra rl rc ca cl cc code regs a b c n rb ro log sec w hra hr hok
 rw[if_neg h6];by_cases h7:op=7
 ·rw[if_pos h7];subst h7;exact Jkp ra rl rc ca cl cc code regs a b c n w
 rw[if_neg h7];by_cases h8:op=8
 ·rw[if_pos h8];subst h8;exact Jkq ra rl rc ca cl cc code regs a b c n w
 rw[if_neg h8];by_cases h9:op=9
 ·rw[if_pos h9];subst h9;exact Jkr ra rl rc ca cl cc code regs a b c n w
 rw[if_neg h9];by_cases h10:op=10
 ·rw[if_pos h10];subst h10;exact Jid ra rl rc ca cl cc code regs a b c n w
 rw[if_neg h10];by_cases h11:op=11
 ·rw[if_pos h11];subst h11;exact Jie ra rl rc ca cl cc code regs a b c n w
 rw[if_neg h11];by_cases h12:op=12
 ·rw[if_pos h12];subst h12;exact Jif ra rl rc ca cl cc code regs a b c n w
 rw[if_neg h12];exact Jdw ra rl rc ca cl cc code regs op a b c n h1 h2 h3 h4 h5 h6 h7 h8 h9 h10 h11 h12 w
theorem Jge(ra:Option Addr)(rl rc:Nat)(ca:Option Addr)(cl cc:Nat)(code regs:Int)(rb ro cb co:Nat)(log:Nat->Int)(sec:Nat->Bool)(ins:Nat->Ins)(w:World)(most:Nat)(hcode:code=most)(hmost:most<=8000)
  (hra:0 < rl->ra=some ⟨rb,ro,none⟩) (hr:RegsAt w rb ro rl log sec) (hok:J0r rl log) (hca:0 < cl->ca=some ⟨cb,co,none⟩) (hc:CodeAt w cb co cl ins):
  Calls Tryz.prog 104 #[.agg #[.slice ra rl rc,.slice ca cl cc,V code,V regs]] w (Says (Jfa rl log cl ins most regs) w):=by
 have Hcd:Hid (code=most/\most<=8000):=⟨hcode,hmost⟩;have Hr:Hid ((0 < rl->ra=some ⟨rb,ro,none⟩)/\RegsAt w rb ro rl log sec/\J0r rl log):=⟨hra,hr,hok⟩;have Hc:Hid ((0 < cl->ca=some ⟨cb,co,none⟩)/\CodeAt w cb co cl ins):=⟨hca,hc⟩;clear hcode hmost hra hr hok hca hc;by_cases h1:(cl:Int) < 1
 ·go_enter Tryz.func104,Tryz.ntmps104
  go_wp2;go_ret;exact Says.no (fun h=>by have:=h.1;omega) ((More.refl _).alloc _ _)
 by_cases h2:code < (cl:Int)
 ·go_enter Tryz.func104,Tryz.ntmps104
  go_wp2;go_ret;exact Says.no (fun h=>by have:=h.2.1;have:=Hcd.out.1;omega) ((More.refl _).alloc _ _)
 have Hl:Hid (1<=cl/\cl<=most):=⟨by omega,by have:=Hcd.out.1;omega⟩;go_enter Tryz.func104,Tryz.ntmps104;go_wp2;go_loopg [23] cl (fun g i wr=>∃k:Nat,k+g=cl/\i=V k/\(∀j,j < k->InsOk rl log cl regs (ins j))/\More (w.alloc (.cells #[.slice ra rl rc,.slice ca cl cc,V code,V regs] 133)) wr)
 case atStart=>exact⟨0,by omega,rfl,fun j hj=>by omega,More.refl _⟩
 case round=>
  obtain⟨k,hkg,rfl,hin,m⟩:=hrel;have Hm:Hid (More (w.alloc (.cells #[.slice ra rl rc,.slice ca cl cc,V code,V regs] 133)) wr/\∀j,j < k->InsOk rl log cl regs (ins j)):=⟨m,hin⟩;clear m hin;cases gk with
  | zero=>
   obtain rfl:k=cl:=by omega
   go_wp2;go_ret;exact Says.yes ⟨Hl.out.1,Hl.out.2,Hm.out.2⟩ (((More.refl _).alloc _ _).trans Hm.out.1)
  | succ g=>
   have hk:k < cl:=by omega
   have hk':(k:Int) < (cl:Int):=by omega
   obtain rfl:=Hc.out.1 (by omega);have Hww:Hid (More w wr):=((More.refl _).alloc _ _).trans Hm.out.1;have hcell:=(Hc.out.2.more Hww.out) k hk;have Hrr:Hid (RegsAt wr rb ro rl log sec):=Hr.out.2.1.more Hww.out;cases hI:ins k with
   | mk op a b c n=>
   rw[hI]at hcell;have HI:Hid (ins k=⟨op,a,b,c,n⟩):=hI;clear hI;obtain⟨q0,q1,q2,q3,q4⟩:=hcell;have e0:wr.cell? ⟨w.heap.size,0,none⟩=some (.slice ra rl rc):=Hm.out.1.cell (by go_simp);have e1:wr.cell? ⟨w.heap.size,1,none⟩=some (.slice (some ⟨cb,co,none⟩) cl cc):=Hm.out.1.cell (by go_simp);have e2:wr.cell? ⟨w.heap.size,2,none⟩=some (V code):=Hm.out.1.cell (by go_simp);have e3:wr.cell? ⟨w.heap.size,3,none⟩=some (V regs):=Hm.out.1.cell (by go_simp);obtain⟨W,HW⟩:∃W:World,Hid (W=wr.alloc (.cells #[V op,V a,V b,V c,V n] 41)):=⟨_,rfl⟩;have HwW:Hid (More wr W):=HW.out▸((More.refl _).alloc _ _);obtain⟨S,HS⟩:∃S:World->Prop,Hid (∀w',S w'↔More W w'):=⟨fun w'=>More W w',fun _=>Iff.rfl⟩;have k0:∀i:{ w' // S w' },i.val.cell? ⟨w.heap.size,0,none⟩=some (.slice ra rl rc):=fun i=>((HS.out _).1 i.property).cell (HwW.out.cell e0)
   have k1:∀i:{ w' // S w' },i.val.cell? ⟨w.heap.size,1,none⟩=some (.slice (some ⟨cb,co,none⟩) cl cc):=fun i=>((HS.out _).1 i.property).cell (HwW.out.cell e1)
   have k2:∀i:{ w' // S w' },i.val.cell? ⟨w.heap.size,2,none⟩=some (V code):=fun i=>((HS.out _).1 i.property).cell (HwW.out.cell e2)
   have k3:∀i:{ w' // S w' },i.val.cell? ⟨w.heap.size,3,none⟩=some (V regs):=fun i=>((HS.out _).1 i.property).cell (HwW.out.cell e3)
   have d0:∀i:{ w' // S w' },i.val.cell? ⟨wr.heap.size,0,none⟩=some (V op):=fun i=>((HS.out _).1 i.property).cell (by rw[HW.out];go_simp)
   have d1:∀i:{ w' // S w' },i.val.cell? ⟨wr.heap.size,1,none⟩=some (V a):=fun i=>((HS.out _).1 i.property).cell (by rw[HW.out];go_simp)
   have d2:∀i:{ w' // S w' },i.val.cell? ⟨wr.heap.size,2,none⟩=some (V b):=fun i=>((HS.out _).1 i.property).cell (by rw[HW.out];go_simp)
   have d3:∀i:{ w' // S w' },i.val.cell? ⟨wr.heap.size,3,none⟩=some (V c):=fun i=>((HS.out _).1 i.property).cell (by rw[HW.out];go_simp)
   have d4:∀i:{ w' // S w' },i.val.cell? ⟨wr.heap.size,4,none⟩=some (V n):=fun i=>((HS.out _).1 i.property).cell (by rw[HW.out];go_simp)
   have hne:Nonempty { w' // S w' }:=⟨⟨W,(HS.out _).2 (More.refl _)⟩⟩;clear e0 e1 e2 e3;go_wp2_with (fail)
   clear q0 q1 q2 q3 q4;refine J04 (S:=S) [(0,true),(1,true),(2,false),(3,true),(4,true),(5,true),(6,true),(7,false),(8,true),(9,true)] (by kernel_rfl) (by kernel_rfl) (by kernel_rfl) ((HS.out _).2 (HW.out▸(More.refl _).drew)) ?_
   iterate 2 (refine J00 rfl (by kernel_rfl) (fun K hK=>?_);go_simp;refine hK _ _ ?_;clear hK K)
   refine J03 rfl (by kernel_rfl) (fun K hK=>?_);go_simp;refine(Jeh op a b c n _).mono ?_;rintro e w1 ⟨a',b',c',n',rfl,hnm,m1⟩;have Hnm:Hid ((a=a'/\b=b'/\c=c'/\n=n')↔J1o op a b c n):=hnm;have Hm1:Hid (More W w1):=HW.out▸(More.trans (More.refl _).drew m1);clear hnm m1
   go_simp
   refine hK _ _ ((HS.out _).2 Hm1.out) ?_;clear hK K;by_cases heq:a=a'/\b=b'/\c=c'/\n=n'
   ·have HN:Hid (J1o op a b c n):=Hnm.out.1 heq
    obtain⟨rfl,rfl,rfl,rfl⟩:=heq;clear Hnm;refine J00 rfl (by kernel_rfl) (fun K hK=>?_);go_simp;refine hK _ _ ?_;clear hK K;refine J2a rfl rfl (by kernel_rfl) (fun K hK=>?_);go_simp;refine hK _ _ ?_;clear hK K
    iterate 2 (refine J00 rfl (by kernel_rfl) (fun K hK=>?_);go_simp;refine hK _ _ ?_;clear hK K)
    refine J03 rfl (by kernel_rfl) (fun K hK=>?_);go_simp;refine(Jcc ra rl rc _ cl cc code regs op a b c n rb ro log sec _ Hr.out.1 (Hrr.out.more (HwW.out.trans Hm1.out)) Hr.out.2.2).mono ?_;rintro e w2 ⟨r2,rfl,hr2,m2⟩;have Hm2:Hid (More W w2):=Hm1.out.trans m2;clear m2;cases r2 with
    | false=>
     have HF:Hid (¬J53 rl log cl regs op a b c n):=fun h=>by simpa using hr2.2 h
     clear hr2
     go_simp
     refine hK _ _ ((HS.out _).2 Hm2.out) ?_;clear hK K;refine J00 rfl (by kernel_rfl) (fun K hK=>?_);go_simp;refine hK _ _ ?_;clear hK K;refine J14 rfl rfl (by kernel_rfl) rfl (fun K hK=>?_);go_simp;refine hK _ _ ?_;clear hK K;refine J06 ?_;clear k0 k1 k2 k3 d0 d1 d2 d3 d4 hne;go_wp2;go_ret;exact Says.no (fun h=>HF.out ((Jea rl log cl regs op a b c n).1 (HI.out▸h.2.2 k hk)).2) ((Hww.out.trans HwW.out).trans Hm2.out)
    | true=>
     have HF:Hid (J53 rl log cl regs op a b c n):=hr2.1 rfl;clear hr2
     go_simp
     refine hK _ _ ((HS.out _).2 Hm2.out) ?_;clear hK K;refine J00 rfl (by kernel_rfl) (fun K hK=>?_);go_simp;refine hK _ _ ?_;clear hK K;refine J14 rfl rfl (by kernel_rfl) rfl (fun K hK=>?_);go_simp;refine hK _ _ ?_;clear hK K;refine J06 ?_;clear k0 k1 k2 k3 d0 d1 d2 d3 d4 hne;go_wp2;go_roundg g
     case measure=>omega
     case rel=>
      refine⟨k+1,by omega,by first | rfl | (simp;unfold wrap64;have:=Hl.out.2;have:=Hcd.out.2;omega),fun j hj=>?_,(Hm.out.1.trans HwW.out).trans Hm2.out⟩;by_cases e:j=k
      ·subst e;rw[HI.out];exact(Jea rl log cl regs op a b c n).2 ⟨HN.out,HF.out⟩
      ·exact Hm.out.2 j (by omega)
   ·have HN:Hid (¬J1o op a b c n):=fun h=>heq (Hnm.out.2 h)
    clear Hnm;have Hq:Hid (¬(a=a'/\b=b'/\c=c'/\n=n')):=heq;clear heq;refine J00 rfl (by kernel_rfl) (fun K hK=>?_)
    go_simp
    refine⟨.bool true,fun w9 _=>?_,hK _ _ ?_⟩
    ·repeat' split
     all_goals first | rfl | exact absurd ⟨‹_›,‹_›,‹_›,‹_›⟩ Hq.out
    clear hK K;refine J2a rfl rfl (by kernel_rfl) (fun K hK=>?_);go_simp;refine hK _ _ ?_;clear hK K
    iterate 4 (refine Jhu rfl ((HS.out _).2 Hm1.out) (by kernel_rfl) (fun K hK=>?_);go_simp;refine hK _ _ ?_;clear hK K)
    refine J1p rfl rfl (by kernel_rfl) rfl (fun K hK=>?_);go_simp;refine hK _ _ ?_;clear hK K;refine J06 ?_;clear k0 k1 k2 k3 d0 d1 d2 d3 d4 hne;go_wp2;go_ret;exact Says.no (fun h=>HN.out ((Jea rl log cl regs op a b c n).1 (HI.out▸h.2.2 k hk)).1) ((Hww.out.trans HwW.out).trans Hm1.out)

theorem J65(ra:Option Addr)(rl rc:Nat)(ca:Option Addr)(cl cc:Nat)(code regs:Int)(rb ro cb co:Nat)(log:Nat->Int)(sec:Nat->Bool)(ins:Nat->Ins)(w:World)(most:Nat)(hcode:code=most)(hmost:most<=8000)
  (hra:0 < rl->ra=some ⟨rb,ro,none⟩) (hr:RegsAt w rb ro rl log sec) (hca:0 < cl->ca=some ⟨cb,co,none⟩) (hc:CodeAt w cb co cl ins):
  Calls Tryz.prog 74 #[.agg #[.slice ra rl rc,.slice ca cl cc,V code,V regs]] w (Says (J0r rl log/\Jfa rl log cl ins most regs) w):=by
 have Hcd:Hid (code=most/\most<=8000):=⟨hcode,hmost⟩;have Hr:Hid ((0 < rl->ra=some ⟨rb,ro,none⟩)/\RegsAt w rb ro rl log sec):=⟨hra,hr⟩;have Hc:Hid ((0 < cl->ca=some ⟨cb,co,none⟩)/\CodeAt w cb co cl ins):=⟨hca,hc⟩;clear hcode hmost hra hr hca hc;go_enter Tryz.func74,Tryz.ntmps74;go_wp2_with (fail)
 refine(J6f ra rl rc ca cl cc code regs rb ro log sec _ Hr.out.1 (Hr.out.2.more ((More.refl _).alloc _ _))).mono ?_;rintro e w1 ⟨r,rfl,h,m1⟩;have e0:w1.cell? ⟨w.heap.size,0,none⟩=some (.slice ra rl rc):=m1.cell (by go_simp);have e1:w1.cell? ⟨w.heap.size,1,none⟩=some (.slice ca cl cc):=m1.cell (by go_simp);have e2:w1.cell? ⟨w.heap.size,2,none⟩=some (V code):=m1.cell (by go_simp);have e3:w1.cell? ⟨w.heap.size,3,none⟩=some (V regs):=m1.cell (by go_simp);have Hm:Hid (More w w1):=((More.refl _).alloc _ _).trans m1;clear m1;cases r with
 | false=>
  have HA:Hid (¬J0r rl log):=fun k=>by simpa using h.2 k
  clear h;go_wp2;go_ret;exact Says.no (fun h=>HA.out h.1) Hm.out
 | true=>
  have HA:Hid (J0r rl log):=h.1 rfl;clear h;go_wp2_with (fail)
  refine(Jge ra rl rc ca cl cc code regs rb ro cb co log sec ins _ most Hcd.out.1 Hcd.out.2 Hr.out.1 (Hr.out.2.more Hm.out) HA.out Hc.out.1 (Hc.out.2.more Hm.out)).mono ?_;rintro e w2 ⟨r2,rfl,h2,m2⟩;have H2:Hid ((r2=true↔Jfa rl log cl ins most regs)/\More w1 w2):=⟨h2,m2⟩;clear h2 m2;go_wp2;go_ret;exact⟨r2,rfl,H2.out.1.trans ⟨fun h=>⟨HA.out,h⟩,fun h=>h.2⟩,Hm.out.trans H2.out.2⟩

theorem Jcr(p:Prg)(l:Loc)(w:World)(h:PIn w p l):
  Calls Tryz.prog 33 #[.agg #[.slice l.ra p.rl l.rc,.slice l.ca p.cl l.cc]] w (Says (p.Ok 200 8) w):=by
 have H:Hid (PIn w p l):=h;clear h;go_enter Tryz.func33,Tryz.ntmps33;go_wp2_with (fail)
 have m0:More w (w.alloc (.cells #[.slice l.ra p.rl l.rc,.slice l.ca p.cl l.cc] 28)):=(More.refl _).alloc _ _;refine(J65 l.ra p.rl l.rc l.ca p.cl l.cc 200 8 l.rb l.ro l.cb l.co p.log p.sec p.ins _ 200 rfl (by omega) H.out.hr (H.out.regs.more m0) H.out.hc (H.out.code.more m0)).mono ?_;rintro e w1 ⟨r,rfl,h1,m1⟩;have H1:Hid ((r=true↔p.Ok 200 8)/\More w w1):=⟨h1,m0.trans m1⟩;clear h1 m1 m0;go_wp2;go_ret;exact⟨r,rfl,H1.out.1,H1.out.2⟩
end
section
open Go.RowKit
set_option linter.unusedSimpArgs false
set_option linter.unusedVariables false
set_option maxRecDepth 8000
theorem Jef(cl:Nat)(B:Nat)(w:World)(h:Blk w B (madeCells #[V 0,.bool false,V 0,.bool false,V 0,.bool false,V 0,.bool false,V 0,.bool false,V 0,.bool false,V 0,.bool false,V 0,.bool false,.bool false] (cl*17)) 141):PlS w B cl (fun _=>none):=by
 refine⟨_,h,size_madeCells _ _,fun k j hk hj=>?_⟩;rw[Jo3];unfold madeCells;rw[Array.getElem?_map,Array.getElem?_range,if_pos (by omega)];have hm:(k*17+j) % 17=j:=by omega
 have hz:(#[V 0,.bool false,V 0,.bool false,V 0,.bool false,V 0,.bool false,V 0,.bool false,V 0,.bool false,V 0,.bool false,V 0,.bool false,.bool false]:Array Value).size=17:=rfl;simp only[Option.map_some];rw[hz,hm];rw[getElem!_pos _ j (by omega),Array.getElem?_eq_getElem (by omega)]
theorem Jl0:∃i,Tryz.prog.info? 141=some i/\i.zero=some (.agg #[V 0,.bool false,V 0,.bool false,V 0,.bool false,V 0,.bool false,V 0,.bool false,V 0,.bool false,V 0,.bool false,V 0,.bool false,.bool false])/\i.size=17/\i.bytes=136:=by
 have h:(Tryz.prog.info? 141).map (fun i=>(i.zero,i.size,i.bytes))=some (some (.agg #[V 0,.bool false,V 0,.bool false,V 0,.bool false,V 0,.bool false,V 0,.bool false,V 0,.bool false,V 0,.bool false,V 0,.bool false,.bool false]),17,136):=by kernel_rfl
 obtain⟨i,h1,h2⟩:=Option.map_eq_some_iff.1 h;simp only[Prod.mk.injEq]at h2;exact⟨i,h1,h2.1,h2.2.1,h2.2.2⟩
theorem Jel(cl:Nat)(h:cl<=200)(w:World):(Instr.makeSlice 100 (V (cl:Int)) (V (cl:Int))).run Tryz.prog w=.ok (.slice (some ⟨w.heap.size,0,none⟩) cl cl) (w.alloc (.cells (madeCells #[V 0,.bool false,V 0,.bool false,V 0,.bool false,V 0,.bool false,V 0,.bool false,V 0,.bool false,V 0,.bool false,V 0,.bool false,.bool false] (cl*17)) 141)):=by
 obtain⟨i,h1,h2,h3,h4⟩:=Jl0;have:=run_make (P:=Tryz.prog) w 100 141 i (.agg #[V 0,.bool false,V 0,.bool false,V 0,.bool false,V 0,.bool false,V 0,.bool false,V 0,.bool false,V 0,.bool false,V 0,.bool false,.bool false]) Tryz.underlying100 h1 h2 .i64 .i64 cl cl (by omega) (Int.le_refl _) (by rw[h4];omega) (by omega);rw[h3]at this;simp only[Int.toNat_natCast]at this;exact this
theorem Jnj:(Tryz.prog.info? 102).map (·.size)=some 4:=by kernel_rfl

structure ChB(w1:World)(cl gM gB:Nat)(w':World):Prop where
 bM:Blk w' gM #[.slice none 0 0,.slice none 0 0,.slice none 0 0,.slice none 0 0] 102
 bB:Blk w' gB (madeCells #[V 0,.bool false,V 0,.bool false,V 0,.bool false,V 0,.bool false,V 0,.bool false,V 0,.bool false,V 0,.bool false,V 0,.bool false,.bool false] (cl*17)) 141
 up:More w1 w'
 ltM:w1.heap.size<=gM
 ltB:w1.heap.size<=gB
 ne:gM≠gB

theorem Jgc(p:Prg)(lo:Loc)(w:World)(hp:PIn w p lo)(hno:¬p.Ok 200 8):
  Calls Tryz.prog 14 #[.agg #[.slice lo.ra p.rl lo.rc,.slice lo.ca p.cl lo.cc]] w fun e w'=>e=.returned (.agg #[V 2,V 0])/\More w w':=by
 have cm:Calls Tryz.prog 33 #[.agg #[.slice lo.ra p.rl lo.rc,.slice lo.ca p.cl lo.cc]] ((w.alloc (.cells #[.slice lo.ra p.rl lo.rc,.slice lo.ca p.cl lo.cc] 28)).alloc (.cells #[V 0,V 0] 52)) fun e w'=>e=.returned (.bool false)/\More ((w.alloc (.cells #[.slice lo.ra p.rl lo.rc,.slice lo.ca p.cl lo.cc] 28)).alloc (.cells #[V 0,V 0] 52)) w':=by
  refine(Jcr p lo _ (hp.more (((More.refl _).alloc _ _).alloc _ _))).mono ?_;rintro e w' ⟨r,rfl,hr,m⟩;cases r with
  | false=>exact⟨rfl,m⟩
  | true=>exact absurd (hr.1 rfl) hno
 clear hp hno;go_enter Tryz.func14,Tryz.ntmps14;go_wp2_with (fail)
 refine cm.mono ?_;rintro e w1 ⟨rfl,m1⟩;have HR:Hid (Blk w1 (w.heap.size+1) #[V 0,V 0] 52/\More w w1):=⟨(by simpa using Blk.last (w.alloc (.cells #[.slice lo.ra p.rl lo.rc,.slice lo.ca p.cl lo.cc] 28)) #[V 0,V 0] 52:Blk _ (w.heap.size+1) _ _).more m1,(((More.refl _).alloc _ _).alloc _ _).trans m1⟩;have t0:=HR.out.1.cell (j:=0) rfl;have t1:=HR.out.1.cell (j:=1) rfl;have u0:=HR.out.1.frozen 0;have u1:=HR.out.1.frozen 1;clear m1 cm;go_wp2;refine bodyPost_ret (by simp[results,Tryz.results14,go_sem, *]) rfl ⟨rfl,?_⟩;exact(HR.out.2.setCell (by dsimp only;omega) _).setCell (by dsimp only;omega) _

theorem J9c(p:Prg)(lo:Loc)(w:World)(hp:PIn w p lo)(hok:p.Ok 200 8)(hnr:∀i,i < p.cl -> -9223372036854775808<=(p.ins i).n/\(p.ins i).n<=9223372036854775807):
  Calls Tryz.prog 14 #[.agg #[.slice lo.ra p.rl lo.rc,.slice lo.ca p.cl lo.cc]] w fun e w'=>∃l,Known p l/\e=.returned (.agg #[V (J1h p l).1,V (J1h p l).2])/\More w w':=by
 suffices hP:∀P:Ending->World->Prop,(∀l,Known p l->∀w',More w w'->P (.returned (.agg #[V (J1h p l).1,V (J1h p l).2])) w')->Calls Tryz.prog 14 #[.agg #[.slice lo.ra p.rl lo.rc,.slice lo.ca p.cl lo.cc]] w P from hP _ (fun l h1 w' h2=>⟨l,h1,rfl,h2⟩)
 intro P hP0;have HP:Hid (∀l,Known p l->∀w',More w w'->P (.returned (.agg #[V (J1h p l).1,V (J1h p l).2])) w'):=hP0;clear hP0;have H:Hid (PIn w p lo/\p.Ok 200 8/\∀i,i < p.cl -> -9223372036854775808<=(p.ins i).n/\(p.ins i).n<=9223372036854775807):=⟨hp,hok,hnr⟩
 have cm:Calls Tryz.prog 33 #[.agg #[.slice lo.ra p.rl lo.rc,.slice lo.ca p.cl lo.cc]] ((w.alloc (.cells #[.slice lo.ra p.rl lo.rc,.slice lo.ca p.cl lo.cc] 28)).alloc (.cells #[V 0,V 0] 52)) fun e w'=>e=.returned (.bool true)/\More ((w.alloc (.cells #[.slice lo.ra p.rl lo.rc,.slice lo.ca p.cl lo.cc] 28)).alloc (.cells #[V 0,V 0] 52)) w':=by
  refine(Jcr p lo _ (hp.more (((More.refl _).alloc _ _).alloc _ _))).mono ?_;rintro e w' ⟨r,rfl,hr,m⟩;cases r with
  | true=>exact⟨rfl,m⟩
  | false=>exact absurd (hr.2 hok) (by simp)
 have hcl:p.cl<=200:=hok.2.2.1;clear hp hok hnr;obtain⟨cl,Hcl⟩:∃x,Hid (p.cl=x):=⟨_,rfl⟩;rw[Hcl.out]at hcl cm |-;have hi2:((cl:Int)<=200):=by omega
 have hmk:=Jel cl hcl;obtain⟨Zs,hZs⟩:∃x,madeCells #[V 0,.bool false,V 0,.bool false,V 0,.bool false,V 0,.bool false,V 0,.bool false,V 0,.bool false,V 0,.bool false,V 0,.bool false,.bool false] (cl*17)=x:=⟨_,rfl⟩;have HZs:Hid (madeCells #[V 0,.bool false,V 0,.bool false,V 0,.bool false,V 0,.bool false,V 0,.bool false,V 0,.bool false,V 0,.bool false,V 0,.bool false,.bool false] (cl*17)=Zs):=hZs;rw[hZs]at hmk;clear hZs;obtain⟨ra,Hra⟩:∃x,Hid (lo.ra=x):=⟨_,rfl⟩;obtain⟨rl,Hrl⟩:∃x,Hid (p.rl=x):=⟨_,rfl⟩;obtain⟨rc,Hrc⟩:∃x,Hid (lo.rc=x):=⟨_,rfl⟩;obtain⟨ca,Hca⟩:∃x,Hid (lo.ca=x):=⟨_,rfl⟩;obtain⟨cc,Hcc⟩:∃x,Hid (lo.cc=x):=⟨_,rfl⟩;rw[Hra.out,Hrl.out,Hrc.out,Hca.out,Hcc.out]at cm |-;go_enter Tryz.func14,Tryz.ntmps14;go_wp2_with (fail)
 refine cm.mono ?_;rintro e w1 ⟨rfl,m1⟩;have HR:Hid (Blk w1 w.heap.size #[.slice ra rl rc,.slice ca cl cc] 28/\Blk w1 (w.heap.size+1) #[V 0,V 0] 52/\More w w1):=⟨((Blk.last _ _ _).alloc _ _).more m1,(by simpa using Blk.last (w.alloc (.cells #[.slice ra rl rc,.slice ca cl cc] 28)) #[V 0,V 0] 52:Blk _ (w.heap.size+1) _ _).more m1,(((More.refl _).alloc _ _).alloc _ _).trans m1⟩;have Hpin:Hid (PIn w1 p lo):=H.out.1.more HR.out.2.2;clear m1 cm;obtain⟨S,HS⟩:∃S:World->Prop,Hid (∀w',S w'↔More w1 w'):=⟨_,fun _=>Iff.rfl⟩;have HS0:S w1.drew:=(HS.out _).2 (More.refl _).drew;have hne:Nonempty { w' // S w' }:=⟨⟨_,HS0⟩⟩;have k0:∀i:{ w' // S w' },i.val.cell? ⟨w.heap.size,0,none⟩=some (.slice ra rl rc):=fun i=>(HR.out.1.more ((HS.out _).1 i.property)).cell rfl
 have k1:∀i:{ w' // S w' },i.val.cell? ⟨w.heap.size,1,none⟩=some (.slice ca cl cc):=fun i=>(HR.out.1.more ((HS.out _).1 i.property)).cell rfl
 go_wp2_with (fail)
 refine J10 (S:=S) (by kernel_rfl) HS0 ?_;refine J05 0 rfl (by kernel_rfl) HS0 (by kernel_rfl) (fun K hK=>?_);go_simp;refine hK _ _ ?_;clear hK K;refine J05 1 rfl (by kernel_rfl) HS0 (by kernel_rfl) (fun K hK=>?_);go_simp;refine hK _ _ ?_;clear hK K;refine J05 2 rfl (by kernel_rfl) HS0 (by kernel_rfl) (fun K hK=>?_);go_simp;refine hK _ _ ?_;clear hK K;refine J05 3 rfl (by kernel_rfl) HS0 (by kernel_rfl) (fun K hK=>?_);go_simp;refine hK _ _ ?_;clear hK K;obtain⟨wd,Hwd⟩:∃wd:World,Hid (wd=w1.drew):=⟨_,rfl⟩;have Hmwd:Hid (More w1 wd):=Hwd.out▸(More.refl w1).drew;rw[<-Hwd.out];clear k0 k1;apply J7d
 ·intro key
  refine J2x 4 6 (by kernel_rfl) ?_ ?_
  ·refine J0b rfl (by kernel_rfl) (fun K hK=>?_);go_simp
   obtain⟨w2,Hw2⟩:∃w_:World,Hid (w_=wd.alloc (.cells Zs 141)):=⟨_,rfl⟩;have m2:More wd w2:=Hw2.out▸(More.refl _).alloc _ _;have Hm2:Hid (More w1 w2):=Hmwd.out.trans m2;have Hb2:Hid (Blk w2 wd.heap.size Zs 141):=Hw2.out▸Blk.last _ _ _;rw[<-Hw2.out];clear m2 Hw2;have HS2:S w2:=(HS.out _).2 Hm2.out;refine hK _ _ HS2 ?_;clear hK K;refine J05 5 rfl (by kernel_rfl) HS2 (by kernel_rfl) (fun K hK=>?_);go_simp;refine hK _ _ ?_;clear hK K;refine J0k 6 (by kernel_rfl) ?_;refine J0b rfl (by kernel_rfl) (fun K hK=>?_);go_simp;obtain⟨w3,Hw3⟩:∃w_:World,Hid (w_=w2.alloc (.cells #[.slice none 0 0,.slice none 0 0,.slice none 0 0,.slice none 0 0] 102)):=⟨_,rfl⟩;have m3:More w2 w3:=Hw3.out▸(More.refl _).alloc _ _;have Hm3:Hid (More w1 w3):=Hm2.out.trans m3;have Hb3:Hid (Blk w3 w2.heap.size #[.slice none 0 0,.slice none 0 0,.slice none 0 0,.slice none 0 0] 102):=Hw3.out▸Blk.last _ _ _;have F:Hid (ChB w1 cl w2.heap.size wd.heap.size w3):=⟨Hb3.out,HZs.out▸Hb2.out.more m3,Hm3.out,Hm2.out.size,Hmwd.out.size,Nat.ne_of_gt Hb2.out.lt⟩;rw[<-Hw3.out];clear m3 Hw3;refine hK _ _ ((HS.out _).2 Hm3.out) ?_;clear hK K;refine J0p (listed':=#[true,true,true,true,true,true,true,false]) (by kernel_rfl) ?_;clear Hb2 Hm2 HS2 Hm3 Hb3;generalize w2.heap.size=gM at F |-;generalize wd.heap.size=gB at F |-;clear w2
   revert w3 gM gB
   exact key
  ·refine J0b rfl (by kernel_rfl) (fun K hK=>?_);go_simp
   obtain⟨w2,Hw2⟩:∃w_:World,Hid (w_=wd.alloc (.cells #[.slice none 0 0,.slice none 0 0,.slice none 0 0,.slice none 0 0] 102)):=⟨_,rfl⟩;have m2:More wd w2:=Hw2.out▸(More.refl _).alloc _ _;have Hm2:Hid (More w1 w2):=Hmwd.out.trans m2;have Hb2:Hid (Blk w2 wd.heap.size #[.slice none 0 0,.slice none 0 0,.slice none 0 0,.slice none 0 0] 102):=Hw2.out▸Blk.last _ _ _;rw[<-Hw2.out];clear m2 Hw2;refine hK _ _ ((HS.out _).2 Hm2.out) ?_;clear hK K;refine J0k 4 (by kernel_rfl) ?_;refine J0b rfl (by kernel_rfl) (fun K hK=>?_);go_simp;obtain⟨w3,Hw3⟩:∃w_:World,Hid (w_=w2.alloc (.cells Zs 141)):=⟨_,rfl⟩;have m3:More w2 w3:=Hw3.out▸(More.refl _).alloc _ _;have Hm3:Hid (More w1 w3):=Hm2.out.trans m3;have Hb3:Hid (Blk w3 w2.heap.size Zs 141):=Hw3.out▸Blk.last _ _ _;have F:Hid (ChB w1 cl wd.heap.size w2.heap.size w3):=⟨Hb2.out.more m3,HZs.out▸Hb3.out,Hm3.out,Hmwd.out.size,Hm2.out.size,Nat.ne_of_lt Hb2.out.lt⟩;rw[<-Hw3.out];clear m3 Hw3;have HS3:S w3:=(HS.out _).2 Hm3.out;refine hK _ _ HS3 ?_;clear hK K;refine J05 5 rfl (by kernel_rfl) HS3 (by kernel_rfl) (fun K hK=>?_);go_simp;refine hK _ _ ?_;clear hK K;refine J0p (listed':=#[true,true,true,true,true,true,true,false]) (by kernel_rfl) ?_;exact key _ _ _ F
 ·intro w3 gM gB F
  obtain⟨w4,Hw4⟩:∃w_:World,Hid (w_=w3.setRow gM #[.slice ra rl rc,.slice ca cl cc,.slice (some ⟨gB,0,none⟩) cl cl,.slice none 0 0]):=⟨_,rfl⟩
  have Hck:Hid (Ck w1 p lo gM gB (fun _=>none) [] (.slice none 0 0) w4):=by
   rw[Hw4.out];refine⟨?_,World.ownsRow_nil _ _ _ _,?_,F.out.up.setRow F.out.ltM _,Hpin.out,⟨F.out.ltM,F.out.ltB⟩⟩
   ·rw[Hra.out,Hrl.out,Hrc.out,Hca.out,Hcc.out,Hcl.out]
    exact F.out.bM.setRow _
   ·rw[Hcl.out]
    exact Jef cl gB _ (F.out.bB.setRow_other F.out.ne.symm _)
  refine J0k 7 (by kernel_rfl) ?_;refine J0b rfl (by kernel_rfl) (fun K hK=>?_);refine wp_store_row 102 (.tmp 3) (.tmp 13) rfl gM #[.slice ra rl rc,.slice ca cl cc,.slice (some ⟨gB,0,none⟩) cl cl,.slice none 0 0] rfl rfl 102 _ F.out.bM Jnj rfl (by simp[Value.oneCell']) ?_;rw[<-Hw4.out];refine hK _ _ ((HS.out _).2 Hck.out.up) ?_;clear hK K;refine J4r (by kernel_rfl) ?_;clear hne HS0;have c1:=Jed Hck.out H.out.2.1 H.out.2.2;go_wp2_with (fail)
  refine c1.mono ?_;rintro e w5 ⟨rfl,kp5,l,tv,hk5,ck5⟩;have Hck5:Hid (Ck w1 p lo gM gB l [] tv w5/\Known p l):=⟨ck5,hk5⟩;have c2:Calls Tryz.prog 35 #[.pointer (some ⟨gM,0,none⟩)] w5 fun e w'=>e=.returned (.agg #[V (J1h p l).1,V (J1h p l).2])/\More w5 w':=Jdx ck5 H.out.2.1 H.out.2.2 (by simp)
  clear kp5 hk5 ck5 c1;have HP2:Hid (∀w',More w w'->P (.returned (.agg #[V (J1h p l).1,V (J1h p l).2])) w'):=HP.out l Hck5.out.2;obtain⟨f,hf⟩:∃x,J1h p l=x:=⟨_,rfl⟩;rw[hf]at c2 HP2;clear hf HP;obtain⟨f1,f2⟩:=f;dsimp only at c2 HP2;go_wp2_with (fail)
  refine c2.mono ?_;rintro e w6 ⟨rfl,m6⟩;have HR6:Hid (Blk w6 (w.heap.size+1) #[V 0,V 0] 52/\More w w6):=⟨HR.out.2.1.more (Hck5.out.1.up.trans m6),HR.out.2.2.trans (Hck5.out.1.up.trans m6)⟩;have t0:=HR6.out.1.cell (j:=0) rfl;have t1:=HR6.out.1.cell (j:=1) rfl;have u0:=HR6.out.1.frozen 0;have u1:=HR6.out.1.frozen 1;clear m6 c2;go_wp2;refine bodyPost_ret (v:=.agg #[V f1,V f2]) (by simp[results,Tryz.results14,go_sem, *]) rfl (HP2.out _ ?_);exact(HR6.out.2.setCell (by dsimp only;omega) _).setCell (by dsimp only;omega) _
end
section
open Go.RowKit
set_option linter.unusedSimpArgs false
set_option linter.unusedVariables false
theorem Jnz(o x y:Int):B64 (opI o x y):=by
  unfold opI
  repeat' split
  all_goals first | exact Jf8 _ | exact J1g

theorem J47{r:Nat->Int}(hr:∀j,j < 10->B64 (r j))(a v:Int)(hv:B64 v):∀j,j < 10->B64 (setR r a v j):=by
  intro j hj;unfold setR
  split
  · exact hv
  · exact hr j hj

theorem Jd3{r:Nat->Int}(hr:∀j,j < 10->B64 (r j))(i:Ins)(hb:i.op=2->i.b.toNat < 10)(hn:B64 i.n):∀j,j < 10->B64 ((regsI r i).1 j):=by
  unfold regsI;by_cases h1:i.op=1
  · rw[if_pos h1];exact J47 hr _ _ hn
  rw[if_neg h1];by_cases h2:i.op=2
  · rw[if_pos h2];exact J47 hr _ _ (hr _ (hb h2))
  rw[if_neg h2];by_cases h3:i.op=10
  · rw[if_pos h3];exact J47 hr _ _ (Jf8 _)
  rw[if_neg h3];by_cases h4:i.op=11
  · rw[if_pos h4]
    dsimp only
    split
    · exact J47 hr _ _ J1g
    · exact hr
  rw[if_neg h4];by_cases h5:i.op=12
  · rw[if_pos h5];exact hr
  rw[if_neg h5];exact J47 hr _ _ (Jnz _ _ _)
theorem Jd4(r:Nat->Int)(i:Ins):(regsI r i).2.length<=1:=by
  unfold regsI
  repeat' split
  all_goals first | exact Nat.zero_le _ | exact Nat.le_refl _

theorem Jga{p:Prg}{m:Mem}{k:Nat}{s:St}(h:Inv p m k s)(hat:s.at_ < p.cl)(hin:InsOk p.rl p.log p.cl 10 (p.ins s.at_))(hn:B64 (p.ins s.at_).n)(hrl:m.ml=p.rl):Inv p m (k+1) (stepI p s).1:=by
  have hseen:=h.seen;have hl1:∀l:List Se,l.length<=1->(s.seen++[(⟨1,s.at_,0⟩:Se)]++l).length<=2*(k+1):=fun l hl=>by simp;omega
  have hl0:(s.seen++[(⟨1,s.at_,0⟩:Se)]).length<=2*(k+1):=by simp;omega
  unfold stepI;by_cases h7:(p.ins s.at_).op=7
  · rw[if_pos h7]
    have:0<=(p.ins s.at_).n/\(p.ins s.at_).n < p.cl:=by unfold InsOk Plc at hin;simp[h7]at hin;exact hin.2.2.2
    exact⟨by dsimp only;omega,h.r,h.ml,h.len,h.wd,hl0⟩
  rw[if_neg h7];by_cases h8:(p.ins s.at_).op=8
  · rw[if_pos h8]
    have:0<=(p.ins s.at_).n/\(p.ins s.at_).n < p.cl:=by unfold InsOk Plc at hin;simp[h8]at hin;exact hin.2.2.2
    refine⟨?_,h.r,h.ml,h.len,h.wd,hl0⟩;dsimp only
    split<;>omega
  rw[if_neg h8];by_cases h9:(p.ins s.at_).op=9
  · rw[if_pos h9];exact⟨by dsimp only;omega,h.r,h.ml,h.len,h.wd,hl0⟩
  rw[if_neg h9];by_cases hp:0<=putI (p.ins s.at_)
  · rw[if_pos hp]
    have hop:(p.ins s.at_).op=3\/(p.ins s.at_).op=4\/(p.ins s.at_).op=5\/(p.ins s.at_).op=6:=by
      unfold putI at hp;by_cases e1:(p.ins s.at_).op=3\/(p.ins s.at_).op=5
      · omega
      · rw[if_neg e1]at hp
        by_cases e2:(p.ins s.at_).op=4\/(p.ins s.at_).op=6
        · omega
        · rw[if_neg e2]at hp;omega
    have hc:(p.ins s.at_).c.toNat < m.ml/\(p.ins s.at_).a.toNat < 10:=by
      unfold InsOk Reg Rgn at hin;rcases hop with e | e | e | e<;>simp[e]at hin<;>omega
    by_cases hx:idxI s.r (p.ins s.at_) < 0\/(s.m.len (p.ins s.at_).c.toNat:Int)<=idxI s.r (p.ins s.at_)
    · rw[if_pos hx];exact⟨by dsimp only;omega,h.r,h.ml,h.len,h.wd,hl0⟩
    rw[if_neg hx];have hlen:=h.len (p.ins s.at_).c.toNat;by_cases h1:putI (p.ins s.at_)=1
    · rw[if_pos h1]
      refine⟨by dsimp only;omega,h.r,h.ml,h.len,fun j hj i hi=>?_,hl1 _ (Nat.le_refl _)⟩;dsimp only[setW]
      split
      · exact h.r _ hc.2
      · exact h.wd j hj i hi
    · rw[if_neg h1]
      exact⟨by dsimp only;omega,J47 h.r _ _ (h.wd _ hc.1 _ (by omega)),h.ml,h.len,h.wd,hl1 _ (Nat.le_refl _)⟩
  rw[if_neg hp];refine⟨by dsimp only;omega,Jd3 h.r _ (fun e=>?_) hn,h.ml,h.len,h.wd,hl1 _ (Jd4 _ _)⟩;unfold InsOk Reg at hin;simp[e]at hin;omega

def baseN(len:Nat->Nat):Nat->Nat
  | 0=>0
  | k+1=>baseN len k+len k
theorem J66(len:Nat->Nat):∀k,(∀j,j < k->len j<=64)->baseN len k<=64*k
  | 0,_=>by simp[baseN]
  | k+1,h=>by
    have:=J66 len k (fun j hj=>h j (by omega));have:=h k (by omega);simp only[baseN];omega
theorem J3q(len:Nat->Nat)(a:Nat):∀k,a<=k->baseN len a<=baseN len k
  | 0, h => by obtain rfl:a=0:=by omega
               exact Nat.le_refl _
  | k+1,h=>by
    by_cases e:a=k+1
    · subst e;exact Nat.le_refl _
    · have:=J3q len a k (by omega)
      simp only[baseN];omega

theorem J3k(p:Prg)(m:Mem)(hlen:∀i,i < m.ml->(m.len i:Int)=J0h (p.log i)):∀j,j<=m.ml->(baseN m.len j:Int)=baseI p.log j
  | 0,_=>rfl
  | j+1,h=>by
    simp only[baseN,baseI];rw[<-J3k p m hlen j (by omega),<-hlen j (by omega)]
    push_cast
    rfl
end
section
open Go.RowKit
set_option linter.unusedSimpArgs false
set_option linter.unusedVariables false
set_option maxRecDepth 8000
theorem J8x{p:Prg}{l:KV}:∀n at_,(scanK p l n at_).1=0\/(scanK p l n at_).1=4\/(scanK p l n at_).1=5
 | 0,at_=>.inl rfl
 | n+1,at_=>by
  rw[scanK];cases l at_ with
  | none=>exact J8x n (at_+1)
  | some s=>
   dsimp only;by_cases h:J36 p at_ s=0
   ·rw[if_pos h];exact J8x n (at_+1)
   ·rw[if_neg h]
    dsimp only
    revert h
    unfold J36
    split
    ·intro _;exact .inr (.inl rfl)
    ·split
     ·intro _;exact .inr (.inr rfl)
     ·intro h;exact absurd rfl h

def Told(p:Prg)(f:Int × Int):Prop:=(¬p.Ok 200 8/\f=(2,0))\/(p.Ok 200 8/\∃l,Known p l/\f=J1h p l)
theorem Told.ok{p:Prg}{f:Int × Int}(h:Told p f)(h0:f.1=0):p.Ok 200 8/\∃l,Known p l/\(J1h p l).1=0:=by
 rcases h with⟨_,rfl⟩ | ⟨h1,l,h2,rfl⟩
 ·exact absurd h0 (by decide)
 ·exact⟨h1,l,h2,h0⟩
theorem Told.one{p:Prg}{f g:Int × Int}(h:Told p f)(k:Told p g):f=g:=by
 rcases h with⟨h1,rfl⟩ | ⟨h1,l,h2,rfl⟩
 ·rcases k with⟨_,rfl⟩ | ⟨k1,_⟩
  ·rfl
  ·exact absurd k1 h1
 ·rcases k with⟨k1,_⟩ | ⟨_,l',k2,rfl⟩
  ·exact absurd h1 k1
  ·exact Ji5 h1 h2 k2

theorem J6t(p:Prg)(l:Loc)(w:World)(hp:PIn w p l)(hf:p.Fit):
  Calls Tryz.prog 14 #[.agg #[.slice l.ra p.rl l.rc,.slice l.ca p.cl l.cc]] w fun e w'=>∃f:Int × Int,Told p f/\e=.returned (.agg #[V f.1,V f.2])/\More w w':=by
 by_cases hok:p.Ok 200 8
 ·refine(J9c p l w hp hok (fun i hi=>(hf.ins i hi).2.2.2.2)).mono ?_
  rintro e w' ⟨l',h1,rfl,m⟩;exact⟨_,.inr ⟨hok,l',h1,rfl⟩,rfl,m⟩
 ·exact(Jgc p l w hp hok).mono (fun e w' ⟨h1,h2⟩=>⟨(2,0),.inl ⟨hok,rfl⟩,h1,h2⟩)
structure Like8(p h:Prg):Prop where
 ok:h.Ok 8000 10
 fit:h.Fit
 rl:p.rl=h.rl
 reg:∀i,i < p.rl->p.log i=h.log i/\p.sec i=h.sec i
end
section
open Go.RowKit
set_option linter.unusedSimpArgs false
set_option linter.unusedVariables false
section
variable {p h:Prg} {st:Nat->Nat} {X:Int} {l:KV} {m:Mem} {s t:St}

theorem Hdn.lt(S:Hdn p h st X){k o:Nat}(hk:k < p.cl)(ho:o < sizeK p k):st k+o < h.cl:=by
 have:=S.mono p.cl k hk (Nat.le_refl _);rw[S.cl];omega

end
section
variable {p h:Prg} {st:Nat->Nat} {X:Int}

theorem Hdn.from_(S:Hdn p h st X):∀(n:Nat),n<=p.cl->∀q,q < st n->∃k o,k < n/\o < sizeK p k/\q=st k+o
 | 0,_,q,hq=>by rw[S.s0]at hq;omega
 | n+1,hn,q,hq=>by
  have e:=S.next n (by omega);by_cases c:q < st n
  ·obtain⟨k,o,h1,h2,h3⟩:=S.from_ n (by omega) q c
   exact⟨k,o,by omega,h2,h3⟩
  ·exact⟨n,q - st n,by omega,by omega,by omega⟩
theorem Hdn.most(S:Hdn p h st X):∀(n:Nat),n<=p.cl->n<=st n/\st n<=3*n
 | 0,_=>by rw[S.s0];omega
 | n+1,hn=>by
  have e:=S.next n (by omega);have:=S.most n (by omega);have:=J3a p n;omega

theorem Jfw{rl:Nat}{log log':Nat->Int}{cl cl':Nat}{i:Ins}(hi:InsOk rl log cl 8 i)(hl:∀c,c < rl->log c=log' c)(h7:¬(i.op=7\/i.op=8)):InsOk rl log' cl' 10 i:=by
 have up:∀x,Reg 8 x->Reg 10 x:=fun x q=>by unfold Reg at *;omega
 have wd:∀c n,Rgn rl c->Wrd log c n->Wrd log' c n:=fun c n q w=>by
  unfold Rgn at q;unfold Wrd at *;rw[<-hl c.toNat (by omega)];exact w
 unfold InsOk at *;by_cases q1:i.op=1
 ·rw[if_pos q1]at *;exact⟨up _ hi.1,hi.2⟩
 rw[if_neg q1]at *;by_cases q2:i.op=2
 ·rw[if_pos q2]at *;exact⟨up _ hi.1,up _ hi.2.1,hi.2.2⟩
 rw[if_neg q2]at *;by_cases q3:i.op=3
 ·rw[if_pos q3]at *;exact⟨up _ hi.1,up _ hi.2.1,hi.2.2⟩
 rw[if_neg q3]at *;by_cases q4:i.op=4
 ·rw[if_pos q4]at *;exact⟨up _ hi.1,up _ hi.2.1,hi.2.2⟩
 rw[if_neg q4]at *;by_cases q5:i.op=5
 ·rw[if_pos q5]at *;exact⟨up _ hi.1,hi.2.1,hi.2.2.1,wd _ _ hi.2.2.1 hi.2.2.2⟩
 rw[if_neg q5]at *;by_cases q6:i.op=6
 ·rw[if_pos q6]at *;exact⟨up _ hi.1,hi.2.1,hi.2.2.1,wd _ _ hi.2.2.1 hi.2.2.2⟩
 rw[if_neg q6,if_neg (fun q=>h7 (.inl q)),if_neg (fun q=>h7 (.inr q))]at *;by_cases q9:i.op=9
 ·rw[if_pos q9]at *;exact⟨up _ hi.1,hi.2⟩
 rw[if_neg q9]at *;by_cases q10:i.op=10
 ·rw[if_pos q10]at *;exact⟨up _ hi.1,up _ hi.2.1,hi.2.2⟩
 rw[if_neg q10]at *;by_cases q11:i.op=11
 ·rw[if_pos q11]at *;exact⟨up _ hi.1,hi.2⟩
 rw[if_neg q11]at *;by_cases q12:i.op=12
 ·rw[if_pos q12]at *;exact hi
 rw[if_neg q12]at *;exact⟨hi.1,up _ hi.2.1,up _ hi.2.2.1,up _ hi.2.2.2.1,hi.2.2.2.2⟩

theorem Jmv(S:Hdn p h st X)(ok:p.Ok 200 8)(hf:p.Fit)(q:Nat)(hq:q < h.cl):InsOk h.rl h.log h.cl 10 (h.ins q)/\(h.ins q).fits:=by
 rw[S.cl]at hq;obtain⟨k,o,hk,ho,rfl⟩:=S.from_ p.cl (Nat.le_refl _) q hq;have hi:=ok.2.2.2 k hk;have hfit:=hf.ins k hk;unfold Ins.fits at hfit;have hX:Reg 10 X:=by unfold Reg;rcases S.x with e | e<;>omega
 have iX:I64 X:=by unfold I64;rcases S.x with e | e<;>omega
 have i0:I64 0:=by unfold I64;omega
 rw[<-S.rl];have small:=S.most p.cl (Nat.le_refl _);have c200:=ok.2.2.1;by_cases m:(p.ins k).op=3\/(p.ins k).op=4
 ·rw[J6k m]at ho
  obtain⟨m0,m1,m2⟩:=S.mem k hk m;have hr:Reg 8 (p.ins k).a/\Reg 8 (p.ins k).b/\Rgn p.rl (p.ins k).c:=by unfold InsOk at hi;rcases m with m | m<;>simpa[m]using hi
  obtain⟨ra,rb,rc⟩:=hr;have hcr:(p.ins k).c.toNat < p.rl:=by unfold Rgn at rc;omega
  have hlog:=ok.1.2 _ hcr;have h64:=J2p (k:=(p.log (p.ins k).c.toNat).toNat) (by omega);have ra':Reg 10 (p.ins k).a:=by unfold Reg at *;omega
  have rb':Reg 10 (p.ins k).b:=by unfold Reg at *;omega
  have hoo:o=0\/o=1\/o=2:=by omega
  rcases hoo with rfl | rfl | rfl
  ·rw[Nat.add_zero,m0]
   refine⟨?_,⟨by unfold I64;dsimp only;omega,iX,hfit.2.2.1,i0,hfit.2.2.2.2⟩⟩;unfold InsOk
   simp
   exact⟨hX,rb'⟩
  ·rw[m1]
   refine⟨?_,⟨by unfold I64;dsimp only;omega,iX,i0,i0,by unfold I64 J0h;dsimp only;omega⟩⟩;unfold InsOk
   simp
   exact⟨hX,by unfold J0h;omega⟩
  ·rw[m2]
   refine⟨?_,⟨hfit.1,hfit.2.1,iX,hfit.2.2.2.1,i0⟩⟩;unfold InsOk;rcases m with m | m<;>simp[m]<;>exact⟨ra',hX,rc⟩
 ·rw[J4z m]at ho
  obtain rfl:o=0:=by omega
  rw[Nat.add_zero];by_cases w:(p.ins k).op=7\/(p.ins k).op=8
  ·rw[S.go k hk w]
   have hn:Plc p.cl (p.ins k).n:=by unfold InsOk at hi;rcases w with w | w<;>simp[w]at hi<;>simp[hi]
   unfold Plc at hn;have hn2:(p.ins k).n.toNat < p.cl:=by omega
   have hlt:=S.lt (o:=0) hn2 (J3a p _).1;rw[Nat.add_zero]at hlt;have hcl:=S.cl;have hP:Plc h.cl (st (p.ins k).n.toNat:Int):=by unfold Plc;omega
   refine⟨?_,⟨hfit.1,hfit.2.1,hfit.2.2.1,hfit.2.2.2.1,by unfold I64;dsimp only;omega⟩⟩;unfold InsOk Reg at hi;unfold InsOk Reg;rcases w with w | w<;>simp[w]at hi<;>simp[w,hP]
   ·exact⟨hi.1,hi.2.1,hi.2.2.1⟩
   ·omega
  ·rw[S.copy k hk m w]
   exact⟨Jfw hi (fun c hc=>(S.reg c hc).1) w,hfit⟩

theorem Jil(S:Hdn p h st X)(ok:p.Ok 200 8)(hf:p.Fit):Like8 p h:=by
 have small:=S.most p.cl (Nat.le_refl _);have c200:=ok.2.2.1;have c1:=ok.2.1;have hcl:=S.cl;refine⟨⟨⟨by rw[<-S.rl];exact ok.1.1,fun i hi=>?_⟩,by omega,by omega,fun q hq=>(Jmv S ok hf q hq).1⟩,⟨by rw[<-S.rl];exact hf.rl,?_,fun i hi=>?_,fun q hq=>(Jmv S ok hf q hq).2⟩,S.rl,S.reg⟩
 ·rw[<-(S.reg i (by rw[S.rl];exact hi)).1];exact ok.1.2 i (by rw[S.rl];exact hi)
 ·have:600<=maxLen:=by decide
  omega
 ·rw[<-(S.reg i (by rw[S.rl];exact hi)).1];exact hf.log i (by rw[S.rl];exact hi)

end
def StrI(i:Ins):Prop:=(i.op=1\/i.op=2\/i.op=10\/i.op=11\/(21<=i.op/\i.op<=28))/\i.a.toNat < 10/\i.b.toNat < 10/\i.c.toNat < 10
def seqR:List Ins->(Nat->Int)->Nat->Int
 | [],r=>r
 | i::B,r=>seqR B (regsI r i).1
def J2k(i:Ins)(L:Nat->Bool):Nat->Bool:=fun j=>
 if j=i.a.toNat then(if i.op=1 then false else if i.op=2\/i.op=10 then L i.b.toNat else if i.op=11 then L i.a.toNat else(L i.b.toNat||L i.c.toNat)) else L j
def labs:List Ins->(Nat->Bool)->Nat->Bool
 | [],L=>L
 | i::B,L=>labs B (J2k i L)

theorem J2n:∀(A B:List Ins) (r:Nat->Int),seqR (A++B) r=seqR B (seqR A r)
 | [],_,_=>rfl
 | i::A,B,r=>J2n A B _
theorem J43:∀(A B:List Ins) (L:Nat->Bool),labs (A++B) L=labs B (labs A L)
 | [],_,_=>rfl
 | i::A,B,L=>J43 A B _
structure Blo(p h:Prg)(st:Nat->Nat)(B:Nat->List Ins)(X:Int):Prop where
 x:X=8\/X=9
 rl:p.rl=h.rl
 reg:∀i,i < p.rl->p.log i=h.log i/\p.sec i=h.sec i
 s0:st 0=0
 next:∀k,k < p.cl->st (k+1)=st k+(B k).length
 cl:h.cl=st p.cl
 ne:∀k,k < p.cl->0 < (B k).length
 at_:∀k,k < p.cl->∀o i,(B k)[o]?=some i->h.ins (st k+o)=i
 go:∀k,k < p.cl->(p.ins k).op=7\/(p.ins k).op=8->B k=[⟨(p.ins k).op,(p.ins k).a,(p.ins k).b,(p.ins k).c,(st (p.ins k).n.toNat:Int)⟩]
 one:∀k,k < p.cl->(p.ins k).op=5\/(p.ins k).op=6\/(p.ins k).op=9\/(p.ins k).op=12\/(p.ins k).op=29\/(p.ins k).op=30->B k=[p.ins k]
 mem:∀k,k < p.cl->(p.ins k).op=3\/(p.ins k).op=4->∃pre,B k=pre++[⟨(p.ins k).op,(p.ins k).a,X,(p.ins k).c,0⟩]/\(∀i ∈ pre,StrI i)/\(∀r j,j < 8->seqR pre r j=r j)/\
  (∀r,0<=seqR pre r X.toNat/\seqR pre r X.toNat < J0h (p.log (p.ins k).c.toNat))/\
  (∀r,(∀j,j < 8->B64 (r j))->0<=idxI r (p.ins k)->idxI r (p.ins k) < J0h (p.log (p.ins k).c.toNat)->seqR pre r X.toNat=idxI r (p.ins k))/\
  (∀L:Nat->Bool,(∀j,8<=j->L j=false)->L (p.ins k).b.toNat=false->∀j,labs pre L j=true->j < 8/\L j=true)
 ops:∀k,k < p.cl->¬((p.ins k).op=3\/(p.ins k).op=4)->¬((p.ins k).op=7\/(p.ins k).op=8)->¬((p.ins k).op=5\/(p.ins k).op=6\/(p.ins k).op=9\/(p.ins k).op=12\/(p.ins k).op=29\/(p.ins k).op=30)->
  (∀i ∈ B k,StrI i)/\(∀r,(∀j,j < 8->B64 (r j))->∀j,j < 8->seqR (B k) r j=(regsI r (p.ins k)).1 j)/\(∀L:Nat->Bool,(∀j,8<=j->L j=false)->∀j,labs (B k) L j=true->j < 8/\J2k (p.ins k) L j=true)

section
variable {p h:Prg} {st:Nat->Nat} {B:Nat->List Ins} {X:Int} {l:KV}

theorem Blo.mono(S:Blo p h st B X):∀(b a:Nat),a < b->b<=p.cl->st a+(B a).length<=st b
 | 0,a,h1,_=>absurd h1 (Nat.not_lt_zero _)
 | b+1,a,h1,h2=>by
  have e:=S.next b (by omega);by_cases q:a=b
  ·subst q;omega
  ·have:=S.mono b a (by omega) (by omega);omega
theorem Blo.lt(S:Blo p h st B X){k o:Nat}(hk:k < p.cl)(ho:o < (B k).length):st k+o < h.cl:=by
 have:=S.mono p.cl k hk (Nat.le_refl _);rw[S.cl];omega
variable {lab:Nat->Nat->Bool}
end
end
section
open Go.RowKit
set_option linter.unusedVariables false
def encW(i:Ins):Int:=(((i.op*16+i.a)*16+i.b)*16+i.c)*16384+(if i.n < 0 then i.n+16384 else i.n)
abbrev N14(n:Int):Prop := -8192<=n/\n<=8191
def W32(u:Int):Prop:=0<=u/\u < 4294967296
structure Small(i:Ins):Prop where
 op:0<=i.op/\i.op < 64
 a:0<=i.a/\i.a < 16
 b:0<=i.b/\i.b < 16
 c:0<=i.c/\i.c < 16

theorem Jm6{rl:Nat}{log:Nat->Int}{cl:Nat}{i:Ins}(hrl:rl<=6)(h:InsOk rl log cl 10 i):Small i:=by
 unfold InsOk Reg Rgn Plc Wrd at h;by_cases h1:i.op=1
 ·rw[if_pos h1]at h;exact⟨by omega,by omega,by omega,by omega⟩
 rw[if_neg h1]at h;by_cases h2:i.op=2
 ·rw[if_pos h2]at h;exact⟨by omega,by omega,by omega,by omega⟩
 rw[if_neg h2]at h;by_cases h3:i.op=3
 ·rw[if_pos h3]at h;exact⟨by omega,by omega,by omega,by omega⟩
 rw[if_neg h3]at h;by_cases h4:i.op=4
 ·rw[if_pos h4]at h;exact⟨by omega,by omega,by omega,by omega⟩
 rw[if_neg h4]at h;by_cases h5:i.op=5
 ·rw[if_pos h5]at h;exact⟨by omega,by omega,by omega,by omega⟩
 rw[if_neg h5]at h;by_cases h6:i.op=6
 ·rw[if_pos h6]at h;exact⟨by omega,by omega,by omega,by omega⟩
 rw[if_neg h6]at h;by_cases h7:i.op=7
 ·rw[if_pos h7]at h;exact⟨by omega,by omega,by omega,by omega⟩
 rw[if_neg h7]at h;by_cases h8:i.op=8
 ·rw[if_pos h8]at h;exact⟨by omega,by omega,by omega,by omega⟩
 rw[if_neg h8]at h;by_cases h9:i.op=9
 ·rw[if_pos h9]at h;exact⟨by omega,by omega,by omega,by omega⟩
 rw[if_neg h9]at h;by_cases h10:i.op=10
 ·rw[if_pos h10]at h;exact⟨by omega,by omega,by omega,by omega⟩
 rw[if_neg h10]at h;by_cases h11:i.op=11
 ·rw[if_pos h11]at h;exact⟨by omega,by omega,by omega,by omega⟩
 rw[if_neg h11]at h;by_cases h12:i.op=12
 ·rw[if_pos h12]at h;exact⟨by omega,by omega,by omega,by omega⟩
 rw[if_neg h12]at h;exact⟨by omega,by omega,by omega,by omega⟩

def PutR(p:Prg)(f:Int × Int):Prop:=
 (¬p.Ok 8000 10/\f=(2,0))\/(p.Ok 8000 10/\∃k:Nat,k < p.cl/\(∀j,j < k->N14 (p.ins j).n)/\¬N14 (p.ins k).n/\f=(3,(k:Int)))\/(p.Ok 8000 10/\(∀j,j < p.cl->N14 (p.ins j).n)/\f=(0,0))
theorem PutR.one{p:Prg}{f g:Int × Int}(h:PutR p f)(k:PutR p g):f=g:=by
 rcases h with⟨h1,rfl⟩ | ⟨h1,a,h2,h3,h4,rfl⟩ | ⟨h1,h2,rfl⟩
 ·rcases k with⟨_,rfl⟩ | ⟨k1,_⟩ | ⟨k1,_⟩
  ·rfl
  ·exact absurd k1 h1
  ·exact absurd k1 h1
 ·rcases k with⟨k1,_⟩ | ⟨_,b,k2,k3,k4,rfl⟩ | ⟨_,k2,_⟩
  ·exact absurd h1 k1
  ·rcases Nat.lt_trichotomy a b with q | q | q
   ·exact absurd (k3 a q) h4
   ·rw[q]
   ·exact absurd (h3 b q) k4
  ·exact absurd (k2 a h2) h4
 ·rcases k with⟨k1,_⟩ | ⟨_,b,k2,k3,k4,rfl⟩ | ⟨_,k2,rfl⟩
  ·exact absurd h1 k1
  ·exact absurd (h2 b k2) k4
  ·rfl
def J84(w:World)(b o n:Nat)(f:Nat->Int):Prop:=∀i,i < n->w.cell? ⟨b,o+i,none⟩=some (.int .u32 (f i))
end
section
open Go.RowKit
set_option linter.unusedSimpArgs false
set_option linter.unusedVariables false
def J16(a:Int):Nat->Int->List Ins
 | 0,n=>[⟨1,a,0,0,n⟩]
 | f+1,n=>if N14 n then[⟨1,a,0,0,n⟩] else J16 a f (n / 8192)++[⟨27,a,a,9,0⟩,⟨10,a,a,0,n % 8192⟩]
def numL(a n:Int):List Ins:=⟨1,9,0,0,13⟩::J16 a 4 n
def fitL(i:Ins):List Ins:=if N14 i.n then[i] else if i.op=1 then numL i.a i.n else if i.op=10 then numL 8 i.n++[⟨21,i.a,i.b,8,0⟩] else[i]
abbrev fitK(q:Prg)(n:Nat):List Ins:=fitL (q.ins n)
def fitP(q:Prg):Prg:=⟨q.rl,q.log,q.sec,J0g (fitK q) q.cl,hardG (fitK q) q.cl⟩

theorem J27(q:Prg)(n:Nat):J0g (fitK q) (n+1)=J0g (fitK q) n+(fitL (q.ins n)).length:=J94 _ n
theorem J24{i:Ins}(h1:¬i.op=1)(h2:¬i.op=10):fitL i=[i]:=by unfold fitL;simp[h1,h2]

theorem J8o{P:Ins->Prop}{a:Int}(h1:∀n,P ⟨1,a,0,0,n⟩)(h2:P ⟨27,a,a,9,0⟩)(h3:∀n,P ⟨10,a,a,0,n⟩):∀(f:Nat) (n:Int),∀i ∈ J16 a f n,P i
 | 0,n,i,hi=>by simp[J16]at hi;subst hi;exact h1 n
 | f+1,n,i,hi=>by
  unfold J16 at hi
  split at hi
  ·simp at hi;subst hi;exact h1 n
  ·simp at hi
   rcases hi with hi | rfl | rfl
   ·exact J8o h1 h2 h3 f _ i hi
   ·exact h2
   ·exact h3 _
def lim:Nat->Int
 | 0=>8192
 | f+1=>lim f*8192
theorem Ja2(a:Int):∀(f:Nat) (n:Int),-lim f<=n->n < lim f->∀i ∈ J16 a f n,N14 i.n
 | 0,n,h1,h2,i,hi=>by simp only[lim]at h1 h2;simp[J16]at hi;subst hi;unfold N14;dsimp only;omega
 | f+1,n,h1,h2,i,hi=>by
  unfold J16 at hi
  split at hi
  ·simp at hi;subst hi;assumption
  ·simp only[lim]at h1 h2
   simp at hi;rcases hi with hi | rfl | rfl
   ·exact Ja2 a f _ (by omega) (by omega) i hi
   ·unfold N14;dsimp only;omega
   ·unfold N14;dsimp only;omega
theorem lim4{n:Int}(h:B64 n):-lim 4<=n/\n < lim 4:=by
 unfold B64 at h;simp only[lim];omega
theorem J8p(a:Int):∀(f:Nat) (n:Int),1<=(J16 a f n).length/\(J16 a f n).length<=1+2*f
 | 0,n=>by simp[J16]
 | f+1,n=>by
  unfold J16
  split
  ·simp
  ·have:=J8p a f (n / 8192)
   simp;omega
theorem Jho(r:Nat->Int)(a x y:Int):setR (setR r a x) a y=setR r a y:=by
 funext j;unfold setR;split<;>rfl
theorem Jeo(r:Nat->Int)(a x:Int):setR r a x a.toNat=x:=by unfold setR;rw[if_pos rfl]
theorem Jep(r:Nat->Int)(a x:Int){j:Nat}(h:¬j=a.toNat):setR r a x j=r j:=by unfold setR;rw[if_neg h]
theorem shl13{n:Int}(h:B64 n):wrap64 (opI 7 (n / 8192) 13+n % 8192)=n:=by
 unfold B64 at h;unfold opI toU wrap64
 simp
 omega
theorem Jd0{a:Int}(ha:¬9=a.toNat):∀(f:Nat) (n:Int),B64 n->∀r:Nat->Int,r 9=13->seqR (J16 a f n) r=setR r a n
 | 0,n,h,r,h9=>by simp[J16,seqR,regsI]
 | f+1,n,h,r,h9=>by
  unfold J16
  split
  ·simp[seqR,regsI]
  ·rw[J2n,Jd0 ha f _ (by unfold B64 at *;omega) r h9]
   simp[seqR,regsI,Jho,Jeo];rw[Jep _ _ _ ha,h9,shl13 h]
theorem Ja3{a:Int}(ha:¬9=a.toNat):∀(f:Nat) (n:Int) (L:Nat->Bool),L 9=false->∀j,labs (J16 a f n) L j=if j=a.toNat then false else L j
 | 0,n,L,h9,j=>by simp[J16,labs,J2k]
 | f+1,n,L,h9,j=>by
  unfold J16
  split
  ·simp[labs,J2k]
  ·rw[J43]
   have h:=Ja3 ha f (n / 8192) L h9;simp[labs,J2k,h,h9]

theorem Jj6{a:Int}(ha:¬9=a.toNat){n:Int}(h:B64 n)(r:Nat->Int):seqR (numL a n) r=setR (setR r 9 13) a n:=by
 unfold numL;simp only[seqR];rw[Jd0 ha 4 n h]
 ·simp[regsI]
 ·simp[regsI,setR]
theorem Jg1{a:Int}(ha:¬9=a.toNat)(n:Int)(L:Nat->Bool)(j:Nat):labs (numL a n) L j=if j=a.toNat then false else if j=9 then false else L j:=by
 unfold numL;simp only[labs];rw[Ja3 ha 4 n _ (by simp[J2k])];simp[J2k]
theorem Jbd{a:Int}(ha:a.toNat < 10)(n:Int):∀i ∈ numL a n,StrI i:=by
 intro i hi;unfold numL at hi;rcases List.mem_cons.1 hi with rfl | hi
 ·unfold StrI;simp
 ·exact J8o (P:=StrI) (fun n=>⟨by simp,ha,by simp,by simp⟩) ⟨by simp,ha,ha,by simp⟩ (fun n=>⟨by simp,ha,ha,by simp⟩) 4 n i hi
theorem Jei(a n:Int):1<=(numL a n).length/\(numL a n).length<=10:=by
 have:=J8p a 4 n;unfold numL;simp;omega
theorem Jaw(i:Ins):1<=(fitL i).length/\(fitL i).length<=11:=by
 unfold fitL
 split
 ·simp
 split
 ·have:=Jei i.a i.n;omega
 split
 ·have:=Jei 8 i.n;simp;omega
 ·simp

theorem Jo5{i:Ins}(h1:i.op=1)(ha:i.a.toNat < 8)(hn:B64 i.n)(r:Nat->Int){j:Nat}(hj:j < 8):seqR (fitL i) r j=setR r i.a i.n j:=by
 unfold fitL
 split
 ·simp[seqR,regsI,h1]
 ·rw[Jj6 (by omega) hn]
  unfold setR
  simp
  split
  ·rfl
  ·rw[if_neg (by omega)]
theorem Jm4{i:Ins}(h1:i.op=1)(ha:i.a.toNat < 8)(L:Nat->Bool)(h9:L 9=false)(j:Nat):labs (fitL i) L j=if j=i.a.toNat then false else L j:=by
 unfold fitL
 split
 ·simp[labs,J2k,h1]
 ·rw[Jg1 (by omega)]
  split
  ·rfl
  ·split
   ·rename_i e;rw[e,h9]
   ·rfl
theorem Jhz{i:Ins}(h1:i.op=10)(hb:i.b.toNat < 8)(hn:B64 i.n)(r:Nat->Int){j:Nat}(hj:j < 8\/j=i.a.toNat):seqR (fitL i) r j=setR r i.a (wrap64 (r i.b.toNat+i.n)) j:=by
 unfold fitL
 split
 ·simp[seqR,regsI,h1]
 ·rw[if_neg (by omega),J2n,Jj6 (by decide) hn]
  simp[seqR,regsI];by_cases e:j=i.a.toNat
  ·rw[e,Jeo,Jeo]
   unfold opI;simp[setR];rw[if_neg (by omega),if_neg (by omega)]
  ·rw[Jep _ _ _ e,Jep _ _ _ e]
   unfold setR
   simp
   rw[if_neg (by omega),if_neg (by omega)]
theorem Jfd{i:Ins}(h1:i.op=10)(hb:i.b.toNat < 8)(L:Nat->Bool)(hL:∀j,8<=j->L j=false)(j:Nat):labs (fitL i) L j=if j=i.a.toNat then L i.b.toNat else L j:=by
 have h8:=hL 8 (by omega);have h9:=hL 9 (by omega);unfold fitL
 split
 ·simp[labs,J2k,h1]
 ·rw[if_neg (by omega),J43]
  simp only[labs,J2k];have e:=Jg1 (a:=8) (by decide) i.n L;simp[e]
  split
  ·simp[show¬i.b.toNat=8 by omega,show¬i.b.toNat=9 by omega]
  ·by_cases q8:j=8
   ·simp[q8,h8]
   ·by_cases q9:j=9
    ·simp[q9,h9]
    ·simp[q8,q9]
theorem J6a{i:Ins}(h:StrI i):∀x ∈ fitL i,StrI x:=by
 intro x hx;unfold fitL at hx
 split at hx
 ·simp at hx;subst hx;exact h
 split at hx
 ·exact Jbd h.2.1 _ x hx
 split at hx
 ·rcases List.mem_append.1 hx with hx | hx
  ·exact Jbd (by decide) _ x hx
  ·simp at hx;subst hx
   exact⟨by simp,h.2.1,h.2.2.1,by simp⟩
 ·simp at hx;subst hx;exact h

section
variable (p:Prg)
def stF(k:Nat):Nat:=J0g (fitK (hardP p)) (J0c p k)
def fitB(k:Nat):List Ins:=
 if(p.ins k).op=3\/(p.ins k).op=4 then fitL ⟨10,8,(p.ins k).b,0,(p.ins k).n⟩++[⟨11,8,0,0,J0h (p.log (p.ins k).c.toNat)⟩,⟨(p.ins k).op,(p.ins k).a,8,(p.ins k).c,0⟩]
 else if(p.ins k).op=7\/(p.ins k).op=8 then[⟨(p.ins k).op,(p.ins k).a,(p.ins k).b,(p.ins k).c,(stF p (p.ins k).n.toNat:Int)⟩]
 else fitL (p.ins k)
end
section
variable {p:Prg} {k:Nat}
theorem J7w(h:(p.ins k).op=3\/(p.ins k).op=4):fitB p k=fitL ⟨10,8,(p.ins k).b,0,(p.ins k).n⟩++[⟨11,8,0,0,J0h (p.log (p.ins k).c.toNat)⟩,⟨(p.ins k).op,(p.ins k).a,8,(p.ins k).c,0⟩]:=by unfold fitB;rw[if_pos h]
theorem Jav(h:(p.ins k).op=7\/(p.ins k).op=8):fitB p k=[⟨(p.ins k).op,(p.ins k).a,(p.ins k).b,(p.ins k).c,(stF p (p.ins k).n.toNat:Int)⟩]:=by unfold fitB;rw[if_neg (by omega),if_pos h]
theorem J4l(h:¬((p.ins k).op=3\/(p.ins k).op=4))(h2:¬((p.ins k).op=7\/(p.ins k).op=8)):fitB p k=fitL (p.ins k):=by unfold fitB;rw[if_neg h,if_neg h2]
theorem fitB_len:1<=(fitB p k).length/\(fitB p k).length<=13:=by
 unfold fitB
 split
 ·have:=Jaw ⟨10,8,(p.ins k).b,0,(p.ins k).n⟩;simp;omega
 split
 ·simp
 ·have:=Jaw (p.ins k);omega

theorem Jg9(hk:k < p.cl):stF p (k+1)=stF p k+(fitB p k).length:=by
 have S:=J6c p;unfold stF;rw[J3b];by_cases m:(p.ins k).op=3\/(p.ins k).op=4
 ·obtain⟨m0,m1,m2⟩:=S.mem k hk m
  rw[J6k m,J27,J27,J27,m0,m1,m2,J7w m,J24 (i:=⟨11,_,_,_,_⟩) (by simp) (by simp),J24 (i:=⟨(p.ins k).op,_,_,_,_⟩) (by dsimp only;omega) (by dsimp only;omega)]
  simp
  omega
 ·rw[J4z m,J27]
  by_cases w:(p.ins k).op=7\/(p.ins k).op=8
  ·rw[S.go k hk w,Jav w,J24 (by dsimp only;omega) (by dsimp only;omega)];rfl
  ·rw[S.copy k hk m w,J4l m w]
theorem Jfn{q:Prg}{m o:Nat}{i:Ins}(hm:m < q.cl)(e:(fitL (q.ins m))[o]?=some i)(h7:¬(i.op=7\/i.op=8)):(fitP q).ins (J0g (fitK q) m+o)=i:=by
 show hardG (fitK q) q.cl (J0g (fitK q) m+o)=i;rw[Jb2 _ hm e,J31 _ h7]
theorem str78{i:Ins}(h:StrI i):¬(i.op=7\/i.op=8):=by
 have:=h.1;omega

theorem Jih(ok:p.Ok 200 8)(hk:k < p.cl)(o:Nat)(i:Ins)(e:(fitB p k)[o]?=some i):(fitP (hardP p)).ins (stF p k+o)=i:=by
 have S:=J6c p;have hlt:∀o,o < sizeK p k->J0c p k+o < (hardP p).cl:=fun o ho=>S.lt hk ho
 have hi:=ok.2.2.2 k hk;by_cases m:(p.ins k).op=3\/(p.ins k).op=4
 ·obtain⟨m0,m1,m2⟩:=S.mem k hk m
  have hs:=J6k m;have hr:Reg 8 (p.ins k).b:=by unfold InsOk at hi;rcases m with m | m<;>simp[m]at hi<;>exact hi.2.1
  unfold Reg at hr;rw[J7w m]at e;have l0:(fitL ((hardP p).ins (J0c p k)))=fitL ⟨10,8,(p.ins k).b,0,(p.ins k).n⟩:=by rw[m0]
  have n0:=J27 (hardP p) (J0c p k);rw[l0]at n0;have l1:fitL ((hardP p).ins (J0c p k+1))=[⟨11,8,0,0,J0h (p.log (p.ins k).c.toNat)⟩]:=by rw[m1];exact J24 (by simp) (by simp)
  have n1:=J27 (hardP p) (J0c p k+1);rw[l1]at n1;have l2:fitL ((hardP p).ins (J0c p k+2))=[⟨(p.ins k).op,(p.ins k).a,8,(p.ins k).c,0⟩]:=by rw[m2];exact J24 (by dsimp only;omega) (by dsimp only;omega)
  unfold stF;by_cases c:o < (fitL ⟨10,8,(p.ins k).b,0,(p.ins k).n⟩).length
  ·rw[List.getElem?_append_left c]at e
   refine Jfn (hlt 0 (by omega)) (by rw[l0];exact e) (str78 (J6a ?_ i (List.mem_of_getElem? e)));exact⟨by simp,by simp,by dsimp only;omega,by simp⟩
  ·rw[List.getElem?_append_right (by omega)]at e
   generalize hd:o - (fitL ⟨10,8,(p.ins k).b,0,(p.ins k).n⟩).length=d at e
   match d,e with
   | 0,e=>
    obtain rfl:=Option.some.inj e;have:=Jfn (o:=0) (hlt 1 (by omega)) (by rw[l1];rfl) (by simp);rw[n0]at this;rw[show J0g (fitK (hardP p)) (J0c p k)+o=J0g (fitK (hardP p)) (J0c p k)+(fitL ⟨10,8,(p.ins k).b,0,(p.ins k).n⟩).length+0 by omega];exact this
   | 1,e=>
    obtain rfl:=Option.some.inj e;have:=Jfn (o:=0) (hlt 2 (by omega)) (by rw[l2];rfl) (by dsimp only;omega);rw[show J0c p k+2=J0c p k+1+1 by omega,n1,n0]at this;rw[show J0g (fitK (hardP p)) (J0c p k)+o=J0g (fitK (hardP p)) (J0c p k)+(fitL ⟨10,8,(p.ins k).b,0,(p.ins k).n⟩).length+1+0 by omega];exact this
   | d+2,e=>simp at e
 ·have hs:=J4z m
  by_cases w:(p.ins k).op=7\/(p.ins k).op=8
  ·rw[Jav w]at e
   have h1:=S.go k hk w;have l0:fitL ((hardP p).ins (J0c p k))=[⟨(p.ins k).op,(p.ins k).a,(p.ins k).b,(p.ins k).c,(J0c p (p.ins k).n.toNat:Int)⟩]:=by rw[h1];exact J24 (by dsimp only;omega) (by dsimp only;omega)
   match o,e with
   | 0,e=>
    obtain rfl:=Option.some.inj e;have:=Jb2 (fitK (hardP p)) (o:=0) (hlt 0 (by omega)) (by show(fitL ((hardP p).ins (J0c p k)))[0]?=_;rw[l0];rfl);refine this.trans ?_;unfold leadG stF;rw[if_pos w]
    simp
   | o+1,e=>simp at e
  ·rw[J4l m w]at e
   have h1:=S.copy k hk m w;refine Jfn (hlt 0 (by omega)) (by rw[h1];exact e) ?_;unfold fitL at e
   split at e
   ·simp[List.getElem?_singleton]at e;rw[<-e.2];exact w
   split at e
   ·refine str78 (Jbd ?_ _ i (List.mem_of_getElem? e))
    rename_i q;unfold InsOk Reg at hi;rw[if_pos q]at hi;omega
   split at e
   ·refine str78 ?_
    rcases List.mem_append.1 (List.mem_of_getElem? e) with hx | hx
    ·exact Jbd (by decide) _ i hx
    ·simp at hx;subst hx
     rename_i q;unfold InsOk Reg at hi;simp[q]at hi;exact⟨by simp,by dsimp only;omega,by dsimp only;omega,by simp⟩
   ·simp[List.getElem?_singleton]at e;rw[<-e.2];exact w

theorem Jni(ok:p.Ok 200 8)(hf:p.Fit):Blo p (fitP (hardP p)) (stF p) (fitB p) 8:=by
 refine⟨.inl rfl,rfl,fun i hi=>⟨rfl,rfl⟩,rfl,fun k hk=>Jg9 hk,rfl,fun k hk=>fitB_len.1,fun k hk=>Jih ok hk,fun k hk h=>Jav h,fun k hk h=>?_,fun k hk m=>?_,fun k hk h1 h2 h3=>?_⟩
 ·rw[J4l (by omega) (by omega),J24 (by omega) (by omega)]
 ·have hi:=ok.2.2.2 k hk
  have hn:B64 (p.ins k).n:=(hf.ins k hk).2.2.2.2;have hr:Reg 8 (p.ins k).b/\Rgn p.rl (p.ins k).c:=by unfold InsOk at hi;rcases m with m | m<;>simp[m]at hi<;>exact hi.2
  obtain⟨hb,hc⟩:=hr;unfold Reg at hb;unfold Rgn at hc;have hl:=ok.1.2 (p.ins k).c.toNat (by omega);have hw:1<=J0h (p.log (p.ins k).c.toNat):=(J2p (by omega)).1;have sq:∀r j,j < 8\/j=8->seqR (fitL ⟨10,8,(p.ins k).b,0,(p.ins k).n⟩) r j=setR r 8 (wrap64 (r (p.ins k).b.toNat+(p.ins k).n)) j:=fun r j hj=>Jhz (i:=⟨10,8,(p.ins k).b,0,(p.ins k).n⟩) rfl (by dsimp only;omega) hn r hj
  have s8:∀r,seqR (fitL ⟨10,8,(p.ins k).b,0,(p.ins k).n⟩) r 8=wrap64 (r (p.ins k).b.toNat+(p.ins k).n):=fun r=>by rw[sq r 8 (.inr rfl)];rfl
  generalize hW:J0h (p.log (p.ins k).c.toNat)=W at hw;have ix:∀r,idxI r (p.ins k)=wrap64 (r (p.ins k).b.toNat+(p.ins k).n):=fun r=>by unfold idxI;rw[if_neg (by omega)]
  have m8:∀r,seqR [⟨11,8,0,0,W⟩] r 8=if r 8 < 0\/W<=r 8 then 0 else r 8:=fun r=>by
   simp[seqR,regsI]
   split
   ·simp[setR]
   ·rfl
  have mj:∀r j,j < 8->seqR [⟨11,8,0,0,W⟩] r j=r j:=fun r j hj=>by
   simp[seqR,regsI]
   split
   ·unfold setR;simp;omega
   ·rfl
  refine⟨fitL ⟨10,8,(p.ins k).b,0,(p.ins k).n⟩++[⟨11,8,0,0,W⟩],?_,fun i hi=>?_,fun r j hj=>?_,fun r=>?_,fun r _ h0 h1=>?_,fun L hL hb0 j hj=>?_⟩
  ·rw[J7w m,hW];simp
  ·rcases List.mem_append.1 hi with h | h
   ·exact J6a ⟨by simp,by simp,by dsimp only;omega,by simp⟩ i h
   ·simp at h;subst h;exact⟨by simp,by simp,by simp,by simp⟩
  ·rw[J2n,mj _ _ hj,sq r j (.inl hj)]
   unfold setR;simp;omega
  ·rw[J2n]
   show 0<=seqR _ _ 8/\seqR _ _ 8 < W;rw[m8]
   split<;>omega
  ·rw[J2n]
   show seqR _ _ 8=_;rw[m8,s8,<-ix];rw[if_neg (by omega)]
  ·rw[J43]at hj
   have e:=Jfd (i:=⟨10,8,(p.ins k).b,0,(p.ins k).n⟩) rfl (by dsimp only;omega) L hL;simp only[labs,J2k]at hj;simp[e]at hj;by_cases q:j=8
   ·simp[q,hb0]at hj
   ·simp[q]at hj
    refine⟨?_,hj⟩;rcases Nat.lt_or_ge j 8 with c | c
    ·exact c
    ·rw[hL j c]at hj;cases hj
 ·have hi:=ok.2.2.2 k hk
  have hn:B64 (p.ins k).n:=(hf.ins k hk).2.2.2.2;have hg:=J5w hi;rw[J4l h1 h2];have hI:=hi;unfold InsOk Reg at hI
  have lowL:∀(L:Nat->Bool),(∀j,8<=j->L j=false)->(p.ins k).a.toNat < 8->∀j,J2k (p.ins k) L j=true->j < 8/\J2k (p.ins k) L j=true:=fun L hL ha j hj=>by
   refine⟨?_,hj⟩;rcases Nat.lt_or_ge j 8 with c | c
   ·exact c
   ·unfold J2k at hj
    rw[if_neg (by omega),hL j c]at hj;cases hj
  have single:StrI (p.ins k)->(p.ins k).a.toNat < 8->fitL (p.ins k)=[p.ins k]->(∀i ∈ fitL (p.ins k),StrI i)/\(∀r,(∀j,j < 8->B64 (r j))->∀j,j < 8->seqR (fitL (p.ins k)) r j=(regsI r (p.ins k)).1 j)/\(∀L:Nat->Bool,(∀j,8<=j->L j=false)->∀j,labs (fitL (p.ins k)) L j=true->j < 8/\J2k (p.ins k) L j=true):=fun hs ha e=>by
   rw[e];exact⟨fun i h=>by simp at h;subst h;exact hs,fun r _ j _=>rfl,fun L hL j hj=>lowL L hL ha j hj⟩
  by_cases q1:(p.ins k).op=1
  ·rw[if_pos q1]at hI
   refine⟨J6a ⟨.inl q1,by omega,by omega,by omega⟩,fun r _ j hj=>?_,fun L hL j hj=>?_⟩
   ·rw[Jo5 q1 (by omega) hn r hj];unfold regsI;rw[if_pos q1]
   ·rw[Jm4 q1 (by omega) L (hL 9 (by omega))]at hj
    have e:J2k (p.ins k) L j=if j=(p.ins k).a.toNat then false else L j:=by unfold J2k;rw[if_pos q1]
    exact lowL L hL (by omega) j (e.trans hj)
  ·rw[if_neg q1]at hI
   by_cases q10:(p.ins k).op=10
   ·simp[q10]at hI
    refine⟨J6a ⟨by omega,by omega,by omega,by omega⟩,fun r _ j hj=>?_,fun L hL j hj=>?_⟩
    ·rw[Jhz q10 (by omega) hn r (.inl hj)];unfold regsI;rw[if_neg (by omega),if_neg (by omega),if_pos q10]
    ·rw[Jfd q10 (by omega) L hL]at hj
     have e:J2k (p.ins k) L j=if j=(p.ins k).a.toNat then L (p.ins k).b.toNat else L j:=by unfold J2k;simp[q10]
     exact lowL L hL (by omega) j (e.trans hj)
   ·have e:=J24 q1 q10
    by_cases q2:(p.ins k).op=2
    ·rw[if_pos q2]at hI
     exact single ⟨.inr (.inl q2),by omega,by omega,by omega⟩ (by omega) e
    by_cases q11:(p.ins k).op=11
    ·simp[q11]at hI
     exact single ⟨by omega,by omega,by omega,by omega⟩ (by omega) e
    ·rw[if_neg q2,if_neg (by omega),if_neg (by omega),if_neg (by omega),if_neg (by omega),if_neg (by omega),if_neg (by omega),if_neg (by omega),if_neg q10,if_neg q11,if_neg (by omega)]at hI
     exact single ⟨by omega,by omega,by omega,by omega⟩ (by omega) e
end
theorem Jff(len:Nat->Nat){c c' i i':Nat}(hi:i < len c)(hi':i' < len c')(h:baseN len c+i=baseN len c'+i'):c=c'/\i=i':=by
 rcases Nat.lt_trichotomy c c' with h1 | h1 | h1
 ·have:=J3q len (c+1) c' h1
  simp only[baseN]at this;omega
 ·subst h1;exact⟨rfl,by omega⟩
 ·have:=J3q len (c'+1) c h1
  simp only[baseN]at this;omega

theorem J5q{s:Sp}(h:s.ahead=true):s.leave=s:=by unfold Sp.leave;rw[if_pos h]

theorem Jf5(p:Prg)(s:Sp)(i:Ins)(n:Int)(h:s.ahead=true):(wordS p s i n).ahead=true/\(wordS p s i n).back=s.back:=by
 unfold wordS
 split
 ·split
  ·exact⟨h,rfl⟩
  ·exact⟨h,rfl⟩
 ·split
  ·exact⟨h,rfl⟩
  ·split
   ·rw[J5q (by exact h)]
    exact⟨h,rfl⟩
   ·exact⟨h,rfl⟩

theorem Jhr(p:Prg)(s:Sp)(h:s.ahead=true):(stepS p s).2.2=none/\(stepS p s).1.ahead=true/\(stepS p s).1.back=s.back:=by
 unfold stepS;by_cases h7:(p.ins s.pl.at_).op=7
 ·rw[if_pos h7];exact⟨rfl,h,rfl⟩
 rw[if_neg h7];by_cases h8:(p.ins s.pl.at_).op=8
 ·rw[if_pos h8]
  by_cases hh:J1n (p.ins s.pl.at_).c (s.pl.r (p.ins s.pl.at_).a.toNat) (s.pl.r (p.ins s.pl.at_).b.toNat)=true
  ·rw[if_pos hh]
   by_cases hc:s.choice=0
   ·rw[if_pos hc];exact⟨rfl,h,rfl⟩
   ·rw[if_neg hc,J5q (by exact h)];exact⟨rfl,h,rfl⟩
  ·rw[if_neg hh]
   by_cases hc:s.choice=0
   ·rw[if_pos hc];exact⟨rfl,h,rfl⟩
   ·rw[if_neg hc,J5q (by exact h)];exact⟨rfl,h,rfl⟩
 rw[if_neg h8,if_neg (by rw[h];simp)];by_cases h9:(p.ins s.pl.at_).op=9\/(p.ins s.pl.at_).op=12
 ·rw[if_pos h9];exact⟨rfl,h,rfl⟩
 rw[if_neg h9];by_cases hp:0<=putI (p.ins s.pl.at_)
 ·rw[if_pos hp,if_neg (by rw[h];simp)]
  exact⟨rfl,Jf5 p _ _ _ h⟩
 ·rw[if_neg hp];exact⟨rfl,h,rfl⟩

theorem J9h{s:Sp}{cl:Nat}(h:cl<=(s.noneLeft cl).pl.at_):(s.noneLeft cl).ahead=false:=by
 unfold Sp.noneLeft at h |-;by_cases hc:cl<=s.pl.at_/\s.ahead=true
 ·rw[if_pos hc];rfl
 ·rw[if_neg hc]at h |-
  cases ha:s.ahead with
  | false=>rfl
  | true=>exact absurd ⟨h,ha⟩ hc
theorem J9x(s:Sp):s.leave.seen=s.seen:=by unfold Sp.leave;split<;>rfl
def numS(p:Prg)(s:Sp)(i:Ins):Int:=wrap64 (baseI p.log i.c.toNat+idxI s.pl.r i)
def Sp.on(s:Sp):Sp:=(s.see ⟨1,s.pl.at_,0⟩).go (s.pl.at_+1)

theorem J76{p:Prg}{s:Sp}{i:Ins}(hI:p.ins s.pl.at_=i)(h:i.op=7):stepS p s=((s.see ⟨1,s.pl.at_,0⟩).go i.n.toNat,false,none):=by
 subst hI;unfold stepS;rw[if_pos h]
theorem Jbr{p:Prg}{s:Sp}{i:Ins}(hI:p.ins s.pl.at_=i)(h:i.op=8)(hh:Bool)(hhh:J1n i.c (s.pl.r i.a.toNat) (s.pl.r i.b.toNat)=hh)(right wrong:Nat)(hr:right=if hh=true then i.n.toNat else s.pl.at_+1)(hw:wrong=if hh=true then s.pl.at_+1 else i.n.toNat):
  stepS p s=(if s.choice=0 then { (s.see ⟨1,s.pl.at_,0⟩).go right with script:=s.script.tail } else({ (s.see ⟨1,s.pl.at_,0⟩).go right with script:=s.script.tail }.leave).go wrong,false,none):=by
 subst hI;unfold stepS;rw[if_neg (by omega),if_pos h];cases hh with
 | true=>rw[if_pos hhh];subst hr hw;rfl
 | false=>rw[if_neg (by rw[hhh];decide)];subst hr hw;rfl
theorem J75{p:Prg}{s:Sp}{i:Ins}(hI:p.ins s.pl.at_=i)(h:i.op=9)(ha:s.ahead=false):stepS p s=(s.see ⟨1,s.pl.at_,0⟩,false,some (1,s.pl.r i.a.toNat)):=by
 subst hI;unfold stepS;rw[if_neg (by omega),if_neg (by omega),if_pos ⟨h,ha⟩]
theorem J32{p:Prg}{s:Sp}{i:Ins}(hI:p.ins s.pl.at_=i)(h:(i.op=9/\s.ahead=true)\/i.op=12):stepS p s=(s.on,true,none):=by
 subst hI;unfold stepS Sp.on;rw[if_neg (by omega),if_neg (by omega)]
 have h1:¬((p.ins s.pl.at_).op=9/\s.ahead=false):=by
  rintro⟨h1,h2⟩;rcases h with⟨_,h3⟩ | h3
  ·rw[h2]at h3;cases h3
  ·omega
 rw[if_neg h1,if_pos (by omega)]
theorem J4c{p:Prg}{s:Sp}{i:Ins}(hI:p.ins s.pl.at_=i)(h:i.op=3\/i.op=4\/i.op=5\/i.op=6)(ha:s.ahead=false)(hx:idxI s.pl.r i < 0\/J0h (p.log i.c.toNat)<=idxI s.pl.r i):stepS p s=(s.see ⟨1,s.pl.at_,0⟩,false,some (2,0)):=by
 subst hI
 have hp:0<=putI (p.ins s.pl.at_):=by
  rcases h with h | h | h | h
  ·rw[J4s (.inl h)];decide
  ·rw[J6e (.inl h)];decide
  ·rw[J4s (.inr h)];decide
  ·rw[J6e (.inr h)];decide
 unfold stepS;rw[if_neg (by omega),if_neg (by omega),if_neg (by omega),if_neg (by omega),if_pos hp,if_pos ⟨ha,hx⟩]
theorem J5b{p:Prg}{s:Sp}{i:Ins}(hI:p.ins s.pl.at_=i)(h:i.op=3\/i.op=4\/i.op=5\/i.op=6)(hx:¬(s.ahead=false/\(idxI s.pl.r i < 0\/J0h (p.log i.c.toNat)<=idxI s.pl.r i))):
  stepS p s=(wordS p (s.on.see ⟨2,numS p s i,putI i⟩) i (numS p s i),false,none):=by
 subst hI
 have hp:0<=putI (p.ins s.pl.at_):=by
  rcases h with h | h | h | h
  ·rw[J4s (.inl h)];decide
  ·rw[J6e (.inl h)];decide
  ·rw[J4s (.inr h)];decide
  ·rw[J6e (.inr h)];decide
 unfold stepS;rw[if_neg (by omega),if_neg (by omega),if_neg (by omega),if_neg (by omega),if_pos hp,if_neg hx]
 rfl
theorem J77{p:Prg}{s:Sp}{i:Ins}(hI:p.ins s.pl.at_=i)(h3:¬i.op=3)(h4:¬i.op=4)(h5:¬i.op=5)(h6:¬i.op=6)(h7:¬i.op=7)(h8:¬i.op=8)(h9:¬i.op=9)(h12:¬i.op=12):
  stepS p s=({ s.on with pl:={ s.on.pl with r:=(regsI s.pl.r i).1 },seen:=s.on.seen++(regsI s.pl.r i).2 },false,none):=by
 subst hI;have hp:=Jo2 h3 h4 h5 h6;unfold stepS;rw[if_neg h7,if_neg h8,if_neg (by omega),if_neg (by omega),if_neg (by rw[hp];decide)]
 rfl

structure PlOk(p:Prg)(k:Nat)(q:Pl):Prop where
 at_:q.at_<=p.cl
 r:∀j,j < 10->B64 (q.r j)
 wd:∀j:Nat,(j:Int) < allI p->B64 (q.wd j)
 past:∀j,(q.past j).length<=k
 was:∀j:Nat,(j:Int) < allI p->∀v ∈ q.past j,B64 v
structure InvS(p:Prg)(k n:Nat)(s:Sp):Prop where
 pl:PlOk p k s.pl
 back:s.ahead=true->PlOk p k s.back
 seen:s.seen.length<=n
 sc:∀c ∈ s.script,0<=c

theorem PlOk.mono{p:Prg}{k k':Nat}{q:Pl}(h:PlOk p k q)(hk:k<=k'):PlOk p k' q:=⟨h.at_,h.r,h.wd,fun j=>Nat.le_trans (h.past j) hk,h.was⟩
theorem PlOk.go{p:Prg}{k:Nat}{q:Pl}(h:PlOk p k q)(n:Nat)(hn:n<=p.cl):PlOk p k { q with at_:=n }:=⟨hn,h.r,h.wd,h.past,h.was⟩
theorem PlOk.reg{p:Prg}{k:Nat}{q:Pl}(h:PlOk p k q)(a v:Int)(hv:B64 v):PlOk p k { q with r:=setR q.r a v }:=⟨h.at_,J47 h.r a v hv,h.wd,h.past,h.was⟩
theorem InvS.mono{p:Prg}{k k' n n':Nat}{s:Sp}(h:InvS p k n s)(hk:k<=k')(hn:n<=n'):InvS p k' n' s:=⟨h.pl.mono hk,fun a=>(h.back a).mono hk,Nat.le_trans h.seen hn,h.sc⟩
theorem InvS.see{p:Prg}{k n:Nat}{s:Sp}(h:InvS p k n s)(x:Se):InvS p k (n+1) (s.see x):=⟨h.pl,h.back,by have:=h.seen;simp[Sp.see];omega,h.sc⟩
theorem InvS.go{p:Prg}{k n:Nat}{s:Sp}(h:InvS p k n s)(m:Nat)(hm:m<=p.cl):InvS p k n (s.go m):=⟨h.pl.go m hm,h.back,h.seen,h.sc⟩
theorem InvS.reg{p:Prg}{k n:Nat}{s:Sp}(h:InvS p k n s)(a v:Int)(hv:B64 v):InvS p k n (s.reg a v):=⟨h.pl.reg a v hv,h.back,h.seen,h.sc⟩
theorem InvS.tail{p:Prg}{k n:Nat}{s:Sp}(h:InvS p k n s):InvS p k n { s with script:=s.script.tail }:=⟨h.pl,h.back,h.seen,fun c hc=>h.sc c (List.mem_of_mem_tail hc)⟩
theorem InvS.leave{p:Prg}{k n:Nat}{s:Sp}(h:InvS p k n s):InvS p k n s.leave:=by
 unfold Sp.leave
 split
 ·exact h
 ·exact⟨h.pl,fun _=>h.pl,h.seen,h.sc⟩
theorem InvS.returns{p:Prg}{k n:Nat}{s:Sp}(h:InvS p k n s)(ha:s.ahead=true):InvS p k (n+1) s.returns:=⟨h.back ha,fun a=>by simp[Sp.returns]at a,by have:=h.seen;simp[Sp.returns];omega,h.sc⟩
theorem InvS.noneLeft{p:Prg}{k n:Nat}{s:Sp}(h:InvS p k n s)(cl:Nat):InvS p k (n+1) (s.noneLeft cl):=by
 unfold Sp.noneLeft
 split
 ·rename_i hc;exact h.returns hc.2
 ·exact h.mono (Nat.le_refl _) (Nat.le_succ _)
theorem InvS.after{p:Prg}{k n:Nat}{s:Sp}(h:InvS p k n s)(over:Bool):InvS p k (n+1) (s.after over):=by
 unfold Sp.after
 split
 ·rename_i ha
  have h2:InvS p k n { s with since:=s.since+1 }:=⟨h.pl,h.back,h.seen,h.sc⟩
  split
  ·exact h2.returns ha
  ·exact h2.mono (Nat.le_refl _) (Nat.le_succ _)
 ·exact h.mono (Nat.le_refl _) (Nat.le_succ _)
theorem InvS.word{p:Prg}{k n:Nat}{s:Sp}(h:InvS p k n s)(i:Ins)(m:Int)(hop:i.op=3\/i.op=4\/i.op=5\/i.op=6)(ha:i.a.toNat < 10):InvS p (k+1) n (wordS p s i m):=by
 have h1:InvS p (k+1) n s:=h.mono (Nat.le_succ _) (Nat.le_refl _);unfold wordS;by_cases hm:m < 0\/allI p<=m
 ·rw[if_pos hm]
  split
  ·exact h1.reg _ _ J1g
  ·exact h1
 rw[if_neg hm];by_cases hp:putI i=1
 ·rw[if_pos hp]
  refine⟨⟨h.pl.at_,h.pl.r,fun j hj=>?_,fun j=>?_,fun j hj v hv=>?_⟩,h1.back,h.seen,h.sc⟩
  ·dsimp only[setF]
   split
   ·exact h.pl.r _ ha
   ·exact h.pl.wd j hj
  ·dsimp only[setF]
   have:=h.pl.past j
   split
   ·rename_i e;subst e;simp;exact h.pl.past _
   ·omega
  ·dsimp only[setF]at hv
   split at hv
   ·rename_i e
    subst e;rcases List.mem_append.1 hv with hv | hv
    ·exact h.pl.was _ hj v hv
    ·rw[List.mem_singleton.1 hv];exact h.pl.wd _ hj
   ·exact h.pl.was j hj v hv
 rw[if_neg hp];have hm2:((m.toNat:Nat):Int) < allI p:=by omega
 have h2:InvS p (k+1) n ({ s with script:=s.script.tail }.reg i.a (s.pl.wd m.toNat)):=(h1.tail).reg _ _ (h.pl.wd _ hm2)
 split
 ·refine h2.leave.reg _ _ ?_
  rw[List.getD_eq_getElem?_getD];cases hq:(s.pl.past m.toNat)[(s.pl.past m.toNat).length - s.choice.toNat]? with
  | none=>exact J1g
  | some v=>exact h.pl.was _ hm2 v (List.mem_of_getElem? hq)
 ·exact h2

theorem InvS.step{p:Prg}{k n:Nat}{s:Sp}(h:InvS p k n s)(hat:s.pl.at_ < p.cl)(hin:InsOk p.rl p.log p.cl 10 (p.ins s.pl.at_))(hn:B64 (p.ins s.pl.at_).n):InvS p (k+1) (n+2) (stepS p s).1:=by
 obtain⟨i,hI⟩:∃i,p.ins s.pl.at_=i:=⟨_,rfl⟩;rw[hI]at hin hn;have h1:InvS p (k+1) (n+1) (s.see ⟨1,s.pl.at_,0⟩):=(h.see _).mono (Nat.le_succ _) (Nat.le_refl _);have hon:InvS p k (n+1) s.on:=(h.see _).go _ hat;have hon1:InvS p (k+1) (n+1) s.on:=hon.mono (Nat.le_succ _) (Nat.le_refl _);by_cases h7:i.op=7
 ·rw[J76 hI h7]
  have:0<=i.n/\i.n < p.cl:=by unfold InsOk Plc at hin;simp[h7]at hin;exact hin.2.2.2
  exact(h1.go _ (by omega)).mono (Nat.le_refl _) (Nat.le_succ _)
 by_cases h8:i.op=8
 ·have hpl:0<=i.n/\i.n < p.cl:=by unfold InsOk Plc at hin;simp[h8]at hin;exact hin.2.2.2
  rw[Jbr hI h8 _ rfl _ _ rfl rfl];have hb:∀b:Bool,(if b=true then i.n.toNat else s.pl.at_+1)<=p.cl/\(if b=true then s.pl.at_+1 else i.n.toNat)<=p.cl:=by intro b;cases b<;>simp<;>omega
  have hb2:=hb (J1n i.c (s.pl.r i.a.toNat) (s.pl.r i.b.toNat));have h2:=(h1.go _ hb2.1).tail;dsimp only
  split
  ·exact h2.mono (Nat.le_refl _) (Nat.le_succ _)
  ·exact(h2.leave.go _ hb2.2).mono (Nat.le_refl _) (Nat.le_succ _)
 by_cases h9:i.op=9
 ·cases ha:s.ahead with
  | false=>rw[J75 hI h9 ha];exact h1.mono (Nat.le_refl _) (Nat.le_succ _)
  | true=>rw[J32 hI (.inl ⟨h9,ha⟩)];exact hon1.mono (Nat.le_refl _) (Nat.le_succ _)
 by_cases h12:i.op=12
 ·rw[J32 hI (.inr h12)];exact hon1.mono (Nat.le_refl _) (Nat.le_succ _)
 by_cases hw:i.op=3\/i.op=4\/i.op=5\/i.op=6
 ·have hra:i.a.toNat < 10:=by
   unfold InsOk Reg at hin;rcases hw with e | e | e | e<;>simp[e]at hin<;>omega
  by_cases hx:s.ahead=false/\(idxI s.pl.r i < 0\/J0h (p.log i.c.toNat)<=idxI s.pl.r i)
  ·rw[J4c hI hw hx.1 hx.2];exact h1.mono (Nat.le_refl _) (Nat.le_succ _)
  ·rw[J5b hI hw hx]
   exact(hon.see _).word i _ hw hra
 rw[J77 hI (by omega) (by omega) (by omega) (by omega) h7 h8 h9 h12];refine⟨⟨hon1.pl.at_,Jd3 h.pl.r i (fun e=>?_) hn,hon1.pl.wd,hon1.pl.past,hon1.pl.was⟩,hon1.back,?_,hon1.sc⟩
 ·unfold InsOk Reg at hin
  simp[e]at hin;omega
 ·have:=hon1.seen
  have:=Jd4 s.pl.r i
  simp
  omega
end
section
open Go.RowKit
set_option linter.unusedVariables false
def Jfq(m:Mem)(j:Nat):Nat->Int
 | 0=>0
 | n+1=>if baseN m.len n<=j/\j < baseN m.len n+m.len n then m.wd n (j - baseN m.len n) else Jfq m j n
def flatM(m:Mem)(j:Nat):Int:=Jfq m j m.ml

theorem Jcd(m:Mem)(c i:Nat)(hi:i < m.len c):∀n,c < n->Jfq m (baseN m.len c+i) n=m.wd c i
 | 0,h=>absurd h (Nat.not_lt_zero _)
 | n+1,h=>by
  unfold Jfq;by_cases hr:baseN m.len n<=baseN m.len c+i/\baseN m.len c+i < baseN m.len n+m.len n
  ·rw[if_pos hr]
   obtain⟨e1,e2⟩:=Jff m.len (c:=n) (i:=baseN m.len c+i - baseN m.len n) (by omega) hi (by omega);rw[e2,e1]
  ·rw[if_neg hr]
   have hcn:c≠n:=by
    rintro rfl;exact hr (by omega)
   exact Jcd m c i hi n (by omega)
theorem Jaz(m:Mem)(c i:Nat)(hc:c < m.ml)(hi:i < m.len c):flatM m (baseN m.len c+i)=m.wd c i:=
 Jcd m c i hi m.ml hc
theorem J67(len:Nat->Nat):∀(n j:Nat),j < baseN len n->∃c i,c < n/\i < len c/\baseN len c+i=j
 | 0,j,h=>by simp[baseN]at h
 | n+1,j,h=>by
  by_cases e:j < baseN len n
  ·obtain⟨c,i,h1,h2,h3⟩:=J67 len n j e
   exact⟨c,i,by omega,h2,h3⟩
  ·simp only[baseN]at h
   exact⟨n,j - baseN len n,by omega,by omega,by omega⟩
theorem Jik{m:Mem}{W:Nat->Int}(hW:∀j,j < m.ml->∀i,i < m.len j->W (baseN m.len j+i)=m.wd j i)(j:Nat)(hj:j < baseN m.len m.ml):W j=flatM m j:=by
 obtain⟨c,i,h1,h2,rfl⟩:=J67 m.len m.ml j hj;rw[hW c h1 i h2,Jaz m c i h1 h2]
end
section
open Go.RowKit
set_option linter.unusedSimpArgs false
set_option linter.unusedVariables false
theorem Jax{p:Prg}{m:Mem}(hok:p.Ok 8000 10)(hf:J2r p.rl p.log m.ml m.len):(∀i,i < m.ml->0 < m.len i/\m.len i<=64)/\m.ml<=6:=by
 refine⟨fun i hi=>?_,by have h0:=hf.2.1;have:=hok.1.1;omega⟩;have h0:=hf.2.1;have h1:=hf.2.2 i (by omega);have h2:=hok.1.2 i (by omega);have h3:=J2p (k:=(p.log i).toNat) (by omega);unfold J0h at h1;omega

def Wr1(p:Prg)(m:Mem)(L:List Int)(fuel c:Int):Prop:=
 (¬(p.Ok 8000 10/\J2r p.rl p.log m.ml m.len)/\c=2)\/((p.Ok 8000 10/\J2r p.rl p.log m.ml m.len)/\((fuel < 0\/40000 < fuel)\/¬ScOk L)/\c=3)\/
  ((p.Ok 8000 10/\J2r p.rl p.log m.ml m.len)/\¬(fuel < 0\/40000 < fuel)/\ScOk L/\c=0)
theorem Jjx{p:Prg}{m:Mem}{L:List Int}{fuel c d:Int}(h:Wr1 p m L fuel c)(k:Wr1 p m L fuel d):c=d:=by
 rcases h with⟨a,b⟩ | ⟨a,b,e⟩ | ⟨a,b,e,f⟩<;>rcases k with⟨a',b'⟩ | ⟨a',b',e'⟩ | ⟨a',b',e',f'⟩
 ·rw[b,b']
 ·exact absurd a' a
 ·exact absurd a' a
 ·exact absurd a a'
 ·rw[e,e']
 ·rcases b with b | b
  ·exact absurd b b'
  ·exact absurd e' b
 ·exact absurd a a'
 ·rcases b' with b' | b'
  ·exact absurd b' b
  ·exact absurd e b'
 ·rw[f,f']
theorem Jbw{p:Prg}{m:Mem}{L:List Int}{fuel:Int}(h:Wr1 p m L fuel 0):(p.Ok 8000 10/\J2r p.rl p.log m.ml m.len)/\¬(fuel < 0\/40000 < fuel)/\ScOk L:=by
 rcases h with⟨_,b⟩ | ⟨_,_,b⟩ | ⟨a,b,c,_⟩
 ·exact absurd b (by decide)
 ·exact absurd b (by decide)
 ·exact⟨a,b,c⟩

def Jmo(p:Prg)(m:Mem)(L:List Int)(fuel:Int)(w:World)(e:Ending)(w':World):Prop:=
 ∃(x1 x2 x3 code:Int) (a:Option Addr) (n c:Nat) (a':Option Addr) (n' c':Nat),e=.returned (.tuple #[.agg #[V x1,V x2,V x3,.slice a n c,.slice a' n' c'],V code])/\Wr1 p m L fuel code/\
  (code=0->x1=(playS p (flatM m) L fuel.toNat).fin/\Jfb w' (.slice a n c) (playS p (flatM m) L fuel.toNat).seen)/\More w w'
end
section
open Go.RowKit
set_option linter.unusedSimpArgs false
set_option linter.unusedVariables false
set_option maxRecDepth 8000
theorem J1a{w:World}{b:Nat}{o:Obj}(h:w.heap[b]?=some o):b < w.heap.size:=(Array.getElem?_eq_some_iff.1 h).1

theorem J0f{w w':World}{M:Nat}(h:Below M w w')(j:Nat)(v:Value):Below M w (w'.setCell ⟨M,j,none⟩ v):=Below.setCell h (Nat.le_refl _) v

theorem J07{w w':World}{M:Nat}(h:Below M w w')(hM:M<=w'.heap.size)(o:Obj):Below M w (w'.alloc o):=Below.alloc h hM o

theorem J0a{w w':World}{M:Nat}(h:Below M w w'):Below M w w'.drew:=Below.drew h

theorem J11{w w' w'':World}{M:Nat}(h:Below M w w')(hM:M<=w'.heap.size)(m:More w' w''):Below M w w'':=Below.trans h (Below.mono m hM)

theorem Jox:(Tryz.prog.info? 165).map (fun i=>(i.zero,i.size,i.bytes))=some (some (.agg #[V 0,V 0,V 0]),3,24):=by kernel_rfl

theorem J89(w:World)(x y z:Value)(t:TypeId):∀j u,[x,y,z][j]?=some u->(w.alloc (.cells #[x,y,z] t)).cell? ((⟨w.heap.size,0,none⟩:Addr).add j)=some u:=by
 intro j u h;rw[Go.WideShapes.add_plain];have hj:j=0\/j=1\/j=2:=by have:=(List.getElem?_eq_some_iff.1 h).1;simp at this;omega
 rcases hj with rfl | rfl | rfl<;>(simp at h;subst h;go_simp)

structure ScAt(w:World)(B:Nat)(sc:Value)(L:List Int):Prop where
 out:∃sa cap,sc=.slice sa L.length cap/\L.length<=cap/\(L≠[]->∃sb so,sa=some ⟨sb,so,none⟩/\sb < B/\∀j c,L[j]?=some c->w.cell? ⟨sb,so+j,none⟩=some (V c))

theorem ScAt.below{w w':World}{B:Nat}{sc:Value}{L:List Int}(h:ScAt w B sc L)(hb:Below B w w'):ScAt w' B sc L:=by
 obtain⟨sa,cap,h1,h2,h3⟩:=h.out;refine⟨sa,cap,h1,h2,fun hL=>?_⟩;obtain⟨sb,so,h4,h5,h6⟩:=h3 hL;exact⟨sb,so,h4,h5,fun j c hc=>by rw[Below.cell hb h5];exact h6 j c hc⟩

theorem J01{P:Prop}(h:P):Hid P:=h

theorem J08{w:World}{R:Nat}{c:Array Value}{T:TypeId}(h:w.heap[R]?=some (.cells c T (0,0)))(j:Nat)(v:Value)(hv:c[j]?=some v):w.cell? ⟨R,j,none⟩=some v:=by
 rw[cell_of_row w R j c T (0,0) h];exact hv

theorem Jov:(Tryz.prog.info? 35).map (fun i=>(i.zero,i.size,i.bytes))=some (some (.slice none 0 0),1,24):=by kernel_rfl

theorem Jh7(n j:Nat)(h:j < n):(madeCells #[.slice none 0 0] n)[j]?=some (.slice none 0 0):=by
 unfold madeCells;simp[h,Nat.mod_one]

theorem Jjp{p:Prg}{s:Sp}{e:Int × Int}(h:(stepS p s).2.2=some e):(stepS p s).1=s.see ⟨1,s.pl.at_,0⟩:=by
 obtain⟨i,hI⟩:∃i,p.ins s.pl.at_=i:=⟨_,rfl⟩;by_cases h7:i.op=7
 ·rw[J76 hI h7]at h;cases h
 by_cases h8:i.op=8
 ·rw[Jbr hI h8 _ rfl _ _ rfl rfl]at h;cases h
 by_cases h9:i.op=9
 ·cases ha:s.ahead with
  | false=>rw[J75 hI h9 ha]
  | true=>rw[J32 hI (.inl ⟨h9,ha⟩)]at h;cases h
 by_cases h12:i.op=12
 ·rw[J32 hI (.inr h12)]at h;cases h
 by_cases hw:i.op=3\/i.op=4\/i.op=5\/i.op=6
 ·by_cases hx:s.ahead=false/\(idxI s.pl.r i < 0\/J0h (p.log i.c.toNat)<=idxI s.pl.r i)
  ·rw[J4c hI hw hx.1 hx.2]
  ·rw[J5b hI hw hx]at h;cases h
 rw[J77 hI (by omega) (by omega) (by omega) (by omega) h7 h8 h9 h12]at h;cases h

theorem Jmq{p:Prg}{m:Mem}(hrl:m.ml=p.rl)(hlen:∀i,i < m.ml->(m.len i:Int)=J0h (p.log i)):allI p=(baseN m.len m.ml:Int):=by
 unfold allI;rw[<-hrl];exact(J3k p m hlen m.ml (Nat.le_refl _)).symm
def RunB(fin val steps:Int)(n:Nat):Prop:=0<=fin/\fin<=2/\B64 val/\B64 steps/\n < 4611686018427387904
theorem Jft{rl:Nat}{log:Nat->Int}{cl:Nat}{i:Ins}(h:InsOk rl log cl 10 i)(h9:i.op=9):i.a.toNat < 10:=by
 unfold InsOk at h;simp[h9,Reg]at h;omega
theorem Jhp{p:Prg}{s:St}{e:Int × Int}(hr:∀j,j < 10->B64 (s.r j))(hin:InsOk p.rl p.log p.cl 10 (p.ins s.at_))(h:(stepI p s).2=some e):0<=e.1/\e.1<=2/\B64 e.2:=by
 unfold stepI at h;by_cases h7:(p.ins s.at_).op=7
 ·rw[if_pos h7]at h;cases h
 rw[if_neg h7]at h;by_cases h8:(p.ins s.at_).op=8
 ·rw[if_pos h8]at h;cases h
 rw[if_neg h8]at h;by_cases h9:(p.ins s.at_).op=9
 ·rw[if_pos h9]at h
  obtain rfl:=Option.some.inj h;exact⟨by dsimp only;omega,by dsimp only;omega,hr _ (Jft hin h9)⟩
 rw[if_neg h9]at h;by_cases hp:0<=putI (p.ins s.at_)
 ·rw[if_pos hp]at h
  by_cases hi:idxI s.r (p.ins s.at_) < 0\/(s.m.len (p.ins s.at_).c.toNat:Int)<=idxI s.r (p.ins s.at_)
  ·rw[if_pos hi]at h
   obtain rfl:=Option.some.inj h;exact⟨by dsimp only;omega,by dsimp only;omega,J1g⟩
  ·rw[if_neg hi]at h
   by_cases h1:putI (p.ins s.at_)=1
   ·rw[if_pos h1]at h;cases h
   ·rw[if_neg h1]at h;cases h
 ·rw[if_neg hp]at h;cases h
theorem Jhq{p:Prg}{s:Sp}{e:Int × Int}(hr:∀j,j < 10->B64 (s.pl.r j))(hin:InsOk p.rl p.log p.cl 10 (p.ins s.pl.at_))(h:(stepS p s).2.2=some e):0<=e.1/\e.1<=2/\B64 e.2:=by
 unfold stepS at h;by_cases h7:(p.ins s.pl.at_).op=7
 ·rw[if_pos h7]at h;cases h
 rw[if_neg h7]at h;by_cases h8:(p.ins s.pl.at_).op=8
 ·rw[if_pos h8]at h
  by_cases hh:J1n (p.ins s.pl.at_).c (s.pl.r (p.ins s.pl.at_).a.toNat) (s.pl.r (p.ins s.pl.at_).b.toNat)=true
  ·rw[if_pos hh]at h;cases h
  ·rw[if_neg hh]at h;cases h
 rw[if_neg h8]at h;by_cases h9:(p.ins s.pl.at_).op=9/\s.ahead=false
 ·rw[if_pos h9]at h
  obtain rfl:=Option.some.inj h;exact⟨by dsimp only;omega,by dsimp only;omega,hr _ (Jft hin h9.1)⟩
 rw[if_neg h9]at h;by_cases h12:(p.ins s.pl.at_).op=9\/(p.ins s.pl.at_).op=12
 ·rw[if_pos h12]at h;cases h
 rw[if_neg h12]at h;by_cases hp:0<=putI (p.ins s.pl.at_)
 ·rw[if_pos hp]at h
  by_cases hi:s.ahead=false/\(idxI s.pl.r (p.ins s.pl.at_) < 0\/J0h (p.log (p.ins s.pl.at_).c.toNat)<=idxI s.pl.r (p.ins s.pl.at_))
  ·rw[if_pos hi]at h
   obtain rfl:=Option.some.inj h;exact⟨by dsimp only;omega,by dsimp only;omega,J1g⟩
  ·rw[if_neg hi]at h;cases h
 ·rw[if_neg hp]at h;cases h
theorem Jn2{p:Prg}{m:Mem}(hin:∀i,i < p.cl->InsOk p.rl p.log p.cl 10 (p.ins i))(hn:∀i,i < p.cl->B64 (p.ins i).n)(hrl:m.ml=p.rl):∀(f k:Nat) (s:St),Inv p m k s->k+f<=40000->RunB (runI p f k s).fin (runI p f k s).val (runI p f k s).steps (runI p f k s).seen.length
 | 0,k,s,h,hk=>by
  rw[runI];have:=h.seen;exact⟨by dsimp only;omega,by dsimp only;omega,J1g,by unfold B64;dsimp only;omega,by dsimp only;omega⟩
 | f+1,k,s,h,hk=>by
  have hs:=h.seen;rw[runI];by_cases hat:p.cl<=s.at_
  ·rw[if_pos hat]
   exact⟨by dsimp only;omega,by dsimp only;omega,J1g,by unfold B64;dsimp only;omega,by dsimp only;omega⟩
  ·rw[if_neg hat]
   have hi:=Jga h (by omega) (hin _ (by omega)) (hn _ (by omega)) hrl;have h2:=hi.seen;cases he:(stepI p s).2 with
   | none=>exact Jn2 hin hn hrl f (k+1) _ hi (by omega)
   | some e=>
    have h3:=Jhp h.r (hin _ (by omega)) he;exact⟨h3.1,h3.2.1,h3.2.2,by unfold B64;dsimp only;omega,by dsimp only;omega⟩
theorem Jn3{p:Prg}(hin:∀i,i < p.cl->InsOk p.rl p.log p.cl 10 (p.ins i))(hn:∀i,i < p.cl->B64 (p.ins i).n):∀(f k:Nat) (s:Sp),InvS p k (4*k) s->k+f<=40000->RunB (runS p f k s).fin (runS p f k s).val (runS p f k s).steps (runS p f k s).seen.length
 | 0,k,s,h,hk=>by
  rw[runS];have:=h.seen;exact⟨by dsimp only;omega,by dsimp only;omega,J1g,by unfold B64;dsimp only;omega,by dsimp only;omega⟩
 | f+1,k,s,h,hk=>by
  have h1:=h.noneLeft p.cl;have hs:=h1.seen;rw[runS];by_cases hat:p.cl<=(s.noneLeft p.cl).pl.at_
  ·rw[if_pos hat]
   exact⟨by dsimp only;omega,by dsimp only;omega,J1g,by unfold B64;dsimp only;omega,by dsimp only;omega⟩
  ·rw[if_neg hat]
   have hi:=h1.step (by omega) (hin _ (by omega)) (hn _ (by omega));have h2:=hi.seen;cases he:(stepS p (s.noneLeft p.cl)).2.2 with
   | none=>exact Jn3 hin hn f (k+1) _ ((hi.after _).mono (Nat.le_refl _) (by omega)) (by omega)
   | some e=>
    have h3:=Jhq h1.pl.r (hin _ (by omega)) he;exact⟨h3.1,h3.2.1,h3.2.2,by unfold B64;dsimp only;omega,by dsimp only;omega⟩
theorem Jjd{p:Prg}{m:Mem}{fuel:Int}(hw:Wr1 p m [] fuel 0)(hfit:p.Fit)(hwd:∀j,j < m.ml->∀i,i < m.len j->B64 (m.wd j i)):RunB (playI p m fuel.toNat).fin (playI p m fuel.toNat).val (playI p m fuel.toNat).steps (playI p m fuel.toNat).seen.length:=by
 obtain⟨hok,hf,_⟩:=Jbw hw;exact Jn2 (fun i hi=>hok.1.2.2.2 i hi) (fun i hi=>(hfit.ins i hi).2.2.2.2) hok.2.2.1 fuel.toNat 0 _ ⟨Nat.zero_le _,fun _ _=>J1g,rfl,fun _=>rfl,hwd,by simp⟩ (by omega)
theorem Jje{p:Prg}{m:Mem}{L:List Int}{fuel:Int}(hw:Wr1 p m L fuel 0)(hfit:p.Fit)(hwd:∀j,j < m.ml->∀i,i < m.len j->B64 (m.wd j i)):RunB (playS p (flatM m) L fuel.toNat).fin (playS p (flatM m) L fuel.toNat).val (playS p (flatM m) L fuel.toNat).steps (playS p (flatM m) L fuel.toNat).seen.length:=by
 obtain⟨hok,hf,hsok⟩:=Jbw hw;have hml:m.ml=p.rl:=hok.2.2.1;have hlen:∀i,i < m.ml->(m.len i:Int)=J0h (p.log i):=fun i hi=>hok.2.2.2 i (by omega)
 have hall:allI p=(baseN m.len m.ml:Int):=Jmq hml hlen;refine Jn3 (fun i hi=>hok.1.2.2.2 i hi) (fun i hi=>(hfit.ins i hi).2.2.2.2) fuel.toNat 0 _ ?_ (by omega);refine⟨⟨Nat.zero_le _,fun _ _=>J1g,fun j hj=>?_,fun j=>Nat.le_refl _,fun j hj v hv=>by simp at hv⟩,fun a=>by simp at a,Nat.le_refl _,fun c hc=>?_⟩
 ·rw[hall]at hj
  obtain⟨c,i,h1,h2,rfl⟩:=J67 m.len m.ml j (by omega);dsimp only;rw[Jaz m c i h1 h2];exact hwd c h1 i h2
 ·obtain⟨j,hj⟩:=List.getElem?_of_mem hc
  exact hsok.2 j c hj
structure Sta where
 rs:List (Int × Bool)
 cs:List Ins
 ms:List (List Int)
abbrev Sta.prg(x:Sta):Prg:=prgOf x.rs x.cs
abbrev Sta.mem(x:Sta):Mem:=memOf x.ms
structure Wf(x:Sta):Prop where
 rl:x.rs.length<=6
 ml:x.ms.length=x.rs.length
 log:∀r ∈ x.rs,0<=r.1/\r.1<=6
 len:∀l ∈ x.ms,l.length<=64
 wd:∀l ∈ x.ms,∀n ∈ l,B64 n
 cl:x.cs.length<=600
 ins:∀i ∈ x.cs,i.fits
theorem J2y{α:Type}(l:List α)(i:Nat)(d:α)(h:i < l.length):l.getD i d ∈ l:=by
 rw[List.getD_eq_getElem?_getD,List.getElem?_eq_getElem h];exact List.getElem_mem h
theorem Wf.fit{x:Sta}(h:Wf x):x.prg.Fit:=by
 refine⟨by have:=h.rl;show x.rs.length<=maxLen;unfold maxLen;omega,by have:=h.cl;show x.cs.length<=maxLen;unfold maxLen;omega,fun i hi=>?_,fun i hi=>h.ins _ (J2y _ _ _ hi)⟩;have:=h.log _ (J2y x.rs i (0,false) hi);show I64 (x.rs.getD i (0,false)).1;unfold I64;omega
theorem Wf.mwd{x:Sta}(h:Wf x):∀j,j < x.mem.ml->∀i,i < x.mem.len j->B64 (x.mem.wd j i):=fun j hj i hi=>h.wd _ (J2y x.ms j [] hj) _ (J2y _ _ _ hi)

def J5v:List UInt8:=[114,101,103,105,111,110]
def fillW:List UInt8:=[102,105,108,108]
def lookW:List UInt8:=[108,111,111,107]
def insW:List UInt8:=[105,110,115]
def runW:List UInt8:=[114,117,110]
def J86:List UInt8:=[97,104,101,97,100]
def J9r:List UInt8:=[99,104,101,99,107]
def hardW:List UInt8:=[104,97,114,100]
def textW:List UInt8:=[116,101,120,116]
def loadW:List UInt8:=[108,111,97,100]
def isW:List UInt8:=[105,115]
def No(x y:Sta)(a:List UInt8):Prop:=y=x/\a=[63]
def There(x:Sta)(r:Int):Prop:=0<=r/\r < x.ms.length
def over(l row:List Int):List Int:=l++row.drop l.length
def hardC(p:Prg):List Ins:=(List.range (J0c p p.cl)).map (hardL p)

def J59(L:List Int)(x y:Sta)(a:List UInt8):Prop:=
 (∃u v,L=[u,v]/\RegTo x.rs x.ms u v y.rs y.ms a/\y.cs=x.cs)\/(¬L.length=2/\No x y a)
def Jn9(L:List Int)(x:Sta):Prop:=∃r l,L=r::l/\There x r/\l.length<=(x.ms.getD r.toNat []).length
def J9t(L:List Int)(x y:Sta)(a:List UInt8):Prop:=
 (∃r l,L=r::l/\There x r/\l.length<=(x.ms.getD r.toNat []).length/\y=⟨x.rs,x.cs,x.ms.set r.toNat (over l (x.ms.getD r.toNat []))⟩/\a=okW)\/(¬Jn9 L x/\No x y a)
def Ja0(L:List Int)(x y:Sta)(a:List UInt8):Prop:=
 (∃r,L=[r]/\There x r/\y=x/\a=ansL isW (x.ms.getD r.toNat []))\/(¬(∃r,L=[r]/\There x r)/\No x y a)
def insTo(L:List Int)(x y:Sta)(a:List UInt8):Prop:=
 (∃o u v t n,L=[o,u,v,t,n]/\x.cs.length < 200/\y=⟨x.rs,x.cs++[⟨o,u,v,t,n⟩],x.ms⟩/\a=ansL okW [(x.cs.length:Int)+1])\/(¬(L.length=5/\x.cs.length < 200)/\No x y a)
def runTo(L:List Int)(x y:Sta)(a:List UInt8):Prop:=
 (∃f,L=[f]/\y=x/\∃c,Wr1 x.prg x.mem [] f c/\a=ranL c (playI x.prg x.mem f.toNat).fin (playI x.prg x.mem f.toNat).val (playI x.prg x.mem f.toNat).steps (playI x.prg x.mem f.toNat).seen.length)\/(¬L.length=1/\No x y a)
def Jdo(L:List Int)(x y:Sta)(a:List UInt8):Prop:=
 (∃f l,L=f::l/\y=x/\∃c,Wr1 x.prg x.mem l f c/\a=ranL c (playS x.prg (flatM x.mem) l f.toNat).fin (playS x.prg (flatM x.mem) l f.toNat).val (playS x.prg (flatM x.mem) l f.toNat).steps (playS x.prg (flatM x.mem) l f.toNat).seen.length)\/(L=[]/\No x y a)
def fauL(f:Int × Int)(a:List UInt8):List UInt8:=if f.1=0 then a else ansL badW [f.1,f.2]
def Jdt(L:List Int)(x y:Sta)(a:List UInt8):Prop:=
 (L=[]/\y=x/\∃f,Told x.prg f/\a=fauL f okW)\/(¬L=[]/\No x y a)
def J9u(L:List Int)(x y:Sta)(a:List UInt8):Prop:=
 (L=[]/\∃f,Told x.prg f/\y=(if f.1=0 then⟨x.rs,hardC x.prg,x.ms⟩ else x)/\a=fauL f (ansL okW [(J0c x.prg x.prg.cl:Int)]))\/(¬L=[]/\No x y a)
def Jj2(L:List Int)(x y:Sta)(a:List UInt8):Prop:=
 (L=[]/\y=x/\∃f,Told x.prg f/\a=fauL f (ansL okW [((fitP (hardP x.prg)).cl:Int)]))\/(¬L=[]/\No x y a)
def Jjs(L:List Int)(x y:Sta)(a:List UInt8):Prop:=
 (L=[]/\y=x/\((x.prg.Ok 8000 10/\a=ansL okW [((textL x.prg).length:Int)])\/(¬x.prg.Ok 8000 10/\a=ansL badW [2])))\/(¬L=[]/\No x y a)
def J4d(h:List UInt8):Prop:=h=J5v\/h=fillW\/h=lookW\/h=insW\/h=runW\/h=J86\/h=J9r\/h=hardW\/h=textW\/h=loadW
def WordTo(h:List UInt8)(L:List Int)(x y:Sta)(a:List UInt8):Prop:=
 (h=J5v->J59 L x y a)/\(h=fillW->J9t L x y a)/\(h=lookW->Ja0 L x y a)/\(h=insW->insTo L x y a)/\(h=runW->runTo L x y a)/\(h=J86->Jdo L x y a)/\(h=J9r->Jdt L x y a)/\(h=hardW->J9u L x y a)/\(h=textW->Jjs L x y a)/\(h=loadW->Jj2 L x y a)/\(¬J4d h->No x y a)
def NumsR(fs:List (List UInt8))(L:List Int):Prop:=fs=L.map digI/\∀n ∈ L,-999999<=n/\n<=999999
def SLineTo(x:Sta)(l:List UInt8)(y:Sta)(a:List UInt8):Prop:=
 ∃h fs,J09 32 l=h::fs/\((∃L,NumsR fs L/\WordTo h L x y a)\/((∀L,¬NumsR fs L)/\No x y a))

theorem J4t{L:List Int}{x y:Sta}{a:List UInt8}(h:J59 L x y a):WordTo J5v L x y a:=⟨fun _=>h,fun e=>absurd e (by decide),fun e=>absurd e (by decide),fun e=>absurd e (by decide),fun e=>absurd e (by decide),fun e=>absurd e (by decide),fun e=>absurd e (by decide),fun e=>absurd e (by decide),fun e=>absurd e (by decide),fun e=>absurd e (by decide),fun n=>absurd (.inl rfl) n⟩
theorem J6u{L:List Int}{x y:Sta}{a:List UInt8}(h:J9t L x y a):WordTo fillW L x y a:=⟨fun e=>absurd e (by decide),fun _=>h,fun e=>absurd e (by decide),fun e=>absurd e (by decide),fun e=>absurd e (by decide),fun e=>absurd e (by decide),fun e=>absurd e (by decide),fun e=>absurd e (by decide),fun e=>absurd e (by decide),fun e=>absurd e (by decide),fun n=>absurd (.inr (.inl rfl)) n⟩
theorem J6z{L:List Int}{x y:Sta}{a:List UInt8}(h:Ja0 L x y a):WordTo lookW L x y a:=⟨fun e=>absurd e (by decide),fun e=>absurd e (by decide),fun _=>h,fun e=>absurd e (by decide),fun e=>absurd e (by decide),fun e=>absurd e (by decide),fun e=>absurd e (by decide),fun e=>absurd e (by decide),fun e=>absurd e (by decide),fun e=>absurd e (by decide),fun n=>absurd (.inr (.inr (.inl rfl))) n⟩
theorem J9v{L:List Int}{x y:Sta}{a:List UInt8}(h:insTo L x y a):WordTo insW L x y a:=⟨fun e=>absurd e (by decide),fun e=>absurd e (by decide),fun e=>absurd e (by decide),fun _=>h,fun e=>absurd e (by decide),fun e=>absurd e (by decide),fun e=>absurd e (by decide),fun e=>absurd e (by decide),fun e=>absurd e (by decide),fun e=>absurd e (by decide),fun n=>absurd (.inr (.inr (.inr (.inl rfl)))) n⟩
theorem Jd5{L:List Int}{x y:Sta}{a:List UInt8}(h:runTo L x y a):WordTo runW L x y a:=⟨fun e=>absurd e (by decide),fun e=>absurd e (by decide),fun e=>absurd e (by decide),fun e=>absurd e (by decide),fun _=>h,fun e=>absurd e (by decide),fun e=>absurd e (by decide),fun e=>absurd e (by decide),fun e=>absurd e (by decide),fun e=>absurd e (by decide),fun n=>absurd (.inr (.inr (.inr (.inr (.inl rfl))))) n⟩
theorem J64{L:List Int}{x y:Sta}{a:List UInt8}(h:Jdo L x y a):WordTo J86 L x y a:=⟨fun e=>absurd e (by decide),fun e=>absurd e (by decide),fun e=>absurd e (by decide),fun e=>absurd e (by decide),fun e=>absurd e (by decide),fun _=>h,fun e=>absurd e (by decide),fun e=>absurd e (by decide),fun e=>absurd e (by decide),fun e=>absurd e (by decide),fun n=>absurd (.inr (.inr (.inr (.inr (.inr (.inl rfl)))))) n⟩
theorem J68{L:List Int}{x y:Sta}{a:List UInt8}(h:Jdt L x y a):WordTo J9r L x y a:=⟨fun e=>absurd e (by decide),fun e=>absurd e (by decide),fun e=>absurd e (by decide),fun e=>absurd e (by decide),fun e=>absurd e (by decide),fun e=>absurd e (by decide),fun _=>h,fun e=>absurd e (by decide),fun e=>absurd e (by decide),fun e=>absurd e (by decide),fun n=>absurd (.inr (.inr (.inr (.inr (.inr (.inr (.inl rfl))))))) n⟩
theorem J6w{L:List Int}{x y:Sta}{a:List UInt8}(h:J9u L x y a):WordTo hardW L x y a:=⟨fun e=>absurd e (by decide),fun e=>absurd e (by decide),fun e=>absurd e (by decide),fun e=>absurd e (by decide),fun e=>absurd e (by decide),fun e=>absurd e (by decide),fun e=>absurd e (by decide),fun _=>h,fun e=>absurd e (by decide),fun e=>absurd e (by decide),fun n=>absurd (.inr (.inr (.inr (.inr (.inr (.inr (.inr (.inl rfl)))))))) n⟩
theorem J79{L:List Int}{x y:Sta}{a:List UInt8}(h:Jjs L x y a):WordTo textW L x y a:=⟨fun e=>absurd e (by decide),fun e=>absurd e (by decide),fun e=>absurd e (by decide),fun e=>absurd e (by decide),fun e=>absurd e (by decide),fun e=>absurd e (by decide),fun e=>absurd e (by decide),fun e=>absurd e (by decide),fun _=>h,fun e=>absurd e (by decide),fun n=>absurd (.inr (.inr (.inr (.inr (.inr (.inr (.inr (.inr (.inl rfl))))))))) n⟩
theorem J6y{L:List Int}{x y:Sta}{a:List UInt8}(h:Jj2 L x y a):WordTo loadW L x y a:=⟨fun e=>absurd e (by decide),fun e=>absurd e (by decide),fun e=>absurd e (by decide),fun e=>absurd e (by decide),fun e=>absurd e (by decide),fun e=>absurd e (by decide),fun e=>absurd e (by decide),fun e=>absurd e (by decide),fun e=>absurd e (by decide),fun _=>h,fun n=>absurd (.inr (.inr (.inr (.inr (.inr (.inr (.inr (.inr (.inr (rfl)))))))))) n⟩
theorem Jbb{h:List UInt8}(n:¬J4d h):¬h=J5v/\¬h=fillW/\¬h=lookW/\¬h=insW/\¬h=runW/\¬h=J86/\¬h=J9r/\¬h=hardW/\¬h=textW/\¬h=loadW:=by
 unfold J4d at n;simpa only[not_or]using n
theorem J80{h:List UInt8}{L:List Int}{x y:Sta}{a:List UInt8}(n:¬J4d h)(k:No x y a):WordTo h L x y a:=by
 obtain⟨n1,n2,n3,n4,n5,n6,n7,n8,n9,n10⟩:=Jbb n;exact⟨fun e=>absurd e n1,fun e=>absurd e n2,fun e=>absurd e n3,fun e=>absurd e n4,fun e=>absurd e n5,fun e=>absurd e n6,fun e=>absurd e n7,fun e=>absurd e n8,fun e=>absurd e n9,fun e=>absurd e n10,fun _=>k⟩
theorem WordTo.cases{h:List UInt8}{L:List Int}{x y:Sta}{a:List UInt8}(k:WordTo h L x y a):(h=J5v/\J59 L x y a)\/(h=fillW/\J9t L x y a)\/(h=lookW/\Ja0 L x y a)\/(h=insW/\insTo L x y a)\/(h=runW/\runTo L x y a)\/(h=J86/\Jdo L x y a)\/(h=J9r/\Jdt L x y a)\/(h=hardW/\J9u L x y a)\/(h=textW/\Jjs L x y a)\/(h=loadW/\Jj2 L x y a)\/(¬J4d h/\No x y a):=by
 obtain⟨k1,k2,k3,k4,k5,k6,k7,k8,k9,k10,k11⟩:=k;by_cases n:J4d h
 ·rcases n with e | e | e | e | e | e | e | e | e | e
  ·exact .inl ⟨e,k1 e⟩
  ·exact .inr (.inl ⟨e,k2 e⟩)
  ·exact .inr (.inr (.inl ⟨e,k3 e⟩))
  ·exact .inr (.inr (.inr (.inl ⟨e,k4 e⟩)))
  ·exact .inr (.inr (.inr (.inr (.inl ⟨e,k5 e⟩))))
  ·exact .inr (.inr (.inr (.inr (.inr (.inl ⟨e,k6 e⟩)))))
  ·exact .inr (.inr (.inr (.inr (.inr (.inr (.inl ⟨e,k7 e⟩))))))
  ·exact .inr (.inr (.inr (.inr (.inr (.inr (.inr (.inl ⟨e,k8 e⟩)))))))
  ·exact .inr (.inr (.inr (.inr (.inr (.inr (.inr (.inr (.inl ⟨e,k9 e⟩))))))))
  ·exact .inr (.inr (.inr (.inr (.inr (.inr (.inr (.inr (.inr (.inl ⟨e,k10 e⟩)))))))))
 ·exact .inr (.inr (.inr (.inr (.inr (.inr (.inr (.inr (.inr (.inr ⟨n,k11 n⟩)))))))))

theorem No.one{x y y':Sta}{a a':List UInt8}(h:No x y a)(k:No x y' a'):y=y'/\a=a':=⟨h.1.trans k.1.symm,h.2.trans k.2.symm⟩
theorem Jn5{x y:Sta}(h1:x.rs=y.rs)(h2:x.cs=y.cs)(h3:x.ms=y.ms):x=y:=by
 obtain⟨a,b,c⟩:=x;obtain⟨a',b',c'⟩:=y;cases h1;cases h2;cases h3
 rfl
theorem RegTo.one{rs:List (Int × Bool)}{ms:List (List Int)}{u v:Int}{r r':List (Int × Bool)}{m m':List (List Int)}{a a':List UInt8}(h:RegTo rs ms u v r m a)(k:RegTo rs ms u v r' m' a'):r=r'/\m=m'/\a=a':=by
 rcases h with⟨n,rfl,rfl,rfl⟩ | ⟨n,rfl,rfl,rfl⟩<;>rcases k with⟨n',rfl,rfl,rfl⟩ | ⟨n',rfl,rfl,rfl⟩
 ·exact⟨rfl,rfl,rfl⟩
 ·exact absurd n' n
 ·exact absurd n n'
 ·exact⟨rfl,rfl,rfl⟩
theorem WordTo.one{h:List UInt8}{L:List Int}{x y y':Sta}{a a':List UInt8}(k:WordTo h L x y a)(k':WordTo h L x y' a'):y=y'/\a=a':=by
 rcases k.cases with⟨rfl,q⟩ | ⟨rfl,q⟩ | ⟨rfl,q⟩ | ⟨rfl,q⟩ | ⟨rfl,q⟩ | ⟨rfl,q⟩ | ⟨rfl,q⟩ | ⟨rfl,q⟩ | ⟨rfl,q⟩ | ⟨rfl,q⟩ | ⟨n,q⟩
 ·rcases q with⟨u,v,rfl,r,c⟩ | ⟨n,q⟩<;>rcases k'.1 rfl with⟨u',v',e,r',c'⟩ | ⟨n',k'⟩
  ·cases e
   obtain⟨e1,e2,e3⟩:=r.one r';exact⟨Jn5 e1 (c.trans c'.symm) e2,e3⟩
  ·exact absurd rfl n'
  ·subst e;exact absurd rfl n
  ·exact q.one k'
 ·rcases q with⟨r,l,rfl,t,c,rfl,rfl⟩ | ⟨n,q⟩<;>rcases k'.2.1 rfl with⟨r',l',e,t',c',rfl,rfl⟩ | ⟨n',k'⟩
  ·cases e;exact⟨rfl,rfl⟩
  ·exact absurd ⟨r,l,rfl,t,c⟩ n'
  ·exact absurd ⟨r',l',e,t',c'⟩ n
  ·exact q.one k'
 ·rcases q with⟨r,rfl,t,rfl,rfl⟩ | ⟨n,q⟩<;>rcases k'.2.2.1 rfl with⟨r',e,t',rfl,rfl⟩ | ⟨n',k'⟩
  ·cases e;exact⟨rfl,rfl⟩
  ·exact absurd ⟨r,rfl,t⟩ n'
  ·exact absurd ⟨r',e,t'⟩ n
  ·exact q.one k'
 ·rcases q with⟨o,u,v,t,q,rfl,c,rfl,rfl⟩ | ⟨n,q⟩<;>rcases k'.2.2.2.1 rfl with⟨o',u',v',t',q',e,c',rfl,rfl⟩ | ⟨n',k'⟩
  ·cases e;exact⟨rfl,rfl⟩
  ·exact absurd ⟨rfl,c⟩ n'
  ·subst e;exact absurd ⟨rfl,c'⟩ n
  ·exact q.one k'
 ·rcases q with⟨f,rfl,rfl,c,w,rfl⟩ | ⟨n,q⟩<;>rcases k'.2.2.2.2.1 rfl with⟨f',e,rfl,c',w',rfl⟩ | ⟨n',k'⟩
  ·cases e
   obtain rfl:=Jjx w w';exact⟨rfl,rfl⟩
  ·exact absurd rfl n'
  ·subst e;exact absurd rfl n
  ·exact q.one k'
 ·rcases q with⟨f,l,rfl,rfl,c,w,rfl⟩ | ⟨rfl,q⟩<;>rcases k'.2.2.2.2.2.1 rfl with⟨f',l',e,rfl,c',w',rfl⟩ | ⟨e,k'⟩
  ·cases e
   obtain rfl:=Jjx w w';exact⟨rfl,rfl⟩
  ·cases e
  ·cases e
  ·exact q.one k'
 ·rcases q with⟨rfl,rfl,f,t,rfl⟩ | ⟨n,q⟩<;>rcases k'.2.2.2.2.2.2.1 rfl with⟨e,rfl,f',t',rfl⟩ | ⟨n',k'⟩
  ·obtain rfl:=t.one t'
   exact⟨rfl,rfl⟩
  ·exact absurd rfl n'
  ·exact absurd e n
  ·exact q.one k'
 ·rcases q with⟨rfl,f,t,rfl,rfl⟩ | ⟨n,q⟩<;>rcases k'.2.2.2.2.2.2.2.1 rfl with⟨e,f',t',rfl,rfl⟩ | ⟨n',k'⟩
  ·obtain rfl:=t.one t'
   exact⟨rfl,rfl⟩
  ·exact absurd rfl n'
  ·exact absurd e n
  ·exact q.one k'
 ·rcases q with⟨rfl,rfl,t⟩ | ⟨n,q⟩<;>rcases k'.2.2.2.2.2.2.2.2.1 rfl with⟨e,rfl,t'⟩ | ⟨n',k'⟩
  ·rcases t with⟨t,rfl⟩ | ⟨t,rfl⟩<;>rcases t' with⟨t',rfl⟩ | ⟨t',rfl⟩
   ·exact⟨rfl,rfl⟩
   ·exact absurd t t'
   ·exact absurd t' t
   ·exact⟨rfl,rfl⟩
  ·exact absurd rfl n'
  ·exact absurd e n
  ·exact q.one k'
 ·rcases q with⟨rfl,rfl,f,t,rfl⟩ | ⟨n,q⟩<;>rcases k'.2.2.2.2.2.2.2.2.2.1 rfl with⟨e,rfl,f',t',rfl⟩ | ⟨n',k'⟩
  ·obtain rfl:=t.one t'
   exact⟨rfl,rfl⟩
  ·exact absurd rfl n'
  ·exact absurd e n
  ·exact q.one k'
 ·exact q.one (k'.2.2.2.2.2.2.2.2.2.2 n)
theorem b6{n:Int}(h:-999999<=n/\n<=999999):B64 n:=by unfold B64;omega
theorem num6{f:List UInt8}{v:Int}:NumIs 6 f v↔f=digI v /\ -999999<=v/\v<=999999:=by
 constructor
 ·intro h
  refine⟨Jj4 h (by decide),?_⟩;obtain⟨b,d,_,hd,rfl⟩:=h;have hdec:=Jcb hd;have hlen:d.length<=6:=by have:=hd.most;omega
  have hlt:valK d d.length < 1000000:=by
   have h2:∀(y:List UInt8),(∀c ∈ y,48<=c.toNat/\c.toNat<=57)->∀k,k<=y.length->valK y k < 10 ^ k:=fun y hy k=>by
    induction k with
    | zero=>intro _;simp[valK]
    | succ k ih=>
     intro hk;have h1:=ih (by omega);have h3:=hy _ (J2y y k 0 (by omega));rw[valK,Nat.pow_succ];omega
   have:=h2 d hdec.2.1 d.length (Nat.le_refl _);have:10 ^ d.length<=10 ^ 6:=Nat.pow_le_pow_right (by decide) hlen;omega
  cases b<;>simp<;>omega
 ·rintro⟨rfl,h⟩
  exact Ji7 (b6 h) 6 (by omega) (by decide) (by decide) (by decide)
theorem Jkc{u v:Int}(hu:-999999<=u/\u<=999999)(hv:-999999<=v/\v<=999999)(h:digI u=digI v):u=v:=
 Jj5 (num6.2 ⟨rfl,hu⟩) (num6.2 ⟨h,hv⟩)
theorem NumsR.one:∀{fs:List (List UInt8)} {L L':List Int},NumsR fs L->NumsR fs L'->L=L'
 | [],[],[],_,_=>rfl
 | [],_::_,_,h,_=>by have:=h.1;simp at this
 | [],_,_::_,_,h=>by have:=h.1;simp at this
 | _::_,[],_,h,_=>by have:=h.1;simp at this
 | _::_,_,[],_,h=>by have:=h.1;simp at this
 | f::fs,u::L,v::L',h,k=>by
  have h1:=h.1;have k1:=k.1;simp only[List.map_cons,List.cons.injEq]at h1 k1;have e:=Jkc (h.2 u (by simp)) (k.2 v (by simp)) (h1.1.symm.trans k1.1);have e2:L=L':=NumsR.one (fs:=fs) ⟨h1.2,fun n hn=>h.2 n (by simp[hn])⟩ ⟨k1.2,fun n hn=>k.2 n (by simp[hn])⟩;rw[e,e2]
theorem SLineTo.one{x y y':Sta}{l a a':List UInt8}(h:SLineTo x l y a)(k:SLineTo x l y' a'):y=y'/\a=a':=by
 obtain⟨w,fs,e,h⟩:=h;obtain⟨w',fs',e',k⟩:=k;rw[e]at e';obtain⟨rfl,rfl⟩:=List.cons.inj e';rcases h with⟨L,n,h⟩ | ⟨n,h⟩<;>rcases k with⟨L',n',k⟩ | ⟨n',k⟩
 ·obtain rfl:=n.one n'
  exact h.one k
 ·exact absurd n (n' L)
 ·exact absurd n' (n L')
 ·exact h.one k
end
end Go.Proofs.YtephohhigbfafaaGreatDoor
