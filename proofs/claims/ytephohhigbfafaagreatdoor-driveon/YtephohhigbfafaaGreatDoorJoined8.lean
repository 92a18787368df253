/-
  The texts Reach, Num, NumAll, Operate, Do, SReach, STake, SPut, SBranch, SStep, one behind the other, with what is used of them.
-/
import Derived.Test.YtephohhigbfafaaGreatDoorJoined7
import Derived.Test.YtephohhigbfafaaGreatDoorProg
import Derived.WalkKit
import Derived.WalkSpells
import Derived.WalkLawsBesides
import Derived.Test.YtephohhigbfafaaGreatDoorJoined0
import Derived.Deep.RegionWith
import Derived.Test.YtephohhigbfafaaGreatDoorJoined5
namespace Go.Proofs.YtephohhigbfafaaGreatDoor
set_option maxHeartbeats 4000000
section
open Go.RowKit
set_option linter.unusedSimpArgs false
set_option linter.unusedVariables false
theorem J7q(op a b c n s t x i:Int)(w:World)(M:Nat)(hop:op=3\/op=4)(b0:0<=b)(b1:b < 10)(c0:0<=c)(c1:c < 6)(hi:wrap64 (n+x)=i)
  (hs:w.cell? ⟨M,404+c.toNat,none⟩=some (V s)) (ht:w.cell? ⟨M,404+(c+1).toNat,none⟩=some (V t)) (hx:w.cell? ⟨M,7+b.toNat,none⟩=some (V x)) (hM:M < w.heap.size):
  Calls Tryz.prog 95 #[.pointer (some ⟨M,0,none⟩),.agg #[V op,V a,V b,V c,V n]] w fun e w'=>
   e=.returned (.tuple #[V (wrap64 (i+s)),.bool (decide (0<=i)&&decide (i < wrap64 (t - s)))])/\More w w':=by
 have hn:¬M=w.heap.size:=by omega
 have hn':¬w.heap.size=M:=by omega
 have hc1:wrap64 (c+1)=c+1:=by unfold wrap64;omega
 have c2:c+1 < 7:=by omega
 have c3:0<=c+1:=by omega
 have c4:c < 7:=by omega
 have hwr:=J17;by_cases h0:0<=i
 ·rcases hop with rfl | rfl
  all_goals
   go_enter Tryz.func95,Tryz.ntmps95;go_wp2
   go_region
   go_wp2
   go_region
   go_wp2;go_ret2;refine⟨by simp[h0,hi],?_⟩;exact((More.refl _).alloc _ _).drew.drew
 ·rcases hop with rfl | rfl
  all_goals
   go_enter Tryz.func95,Tryz.ntmps95;go_wp2
   go_region
   go_wp2
   go_region
   go_wp2;go_ret2;refine⟨by simp[hi];omega,?_⟩;exact((More.refl _).alloc _ _).drew.drew

theorem J7p(op a b c i s t:Int)(w:World)(M:Nat)(hop:op=5\/op=6)(c0:0<=c)(c1:c < 6)
  (hs:w.cell? ⟨M,404+c.toNat,none⟩=some (V s)) (ht:w.cell? ⟨M,404+(c+1).toNat,none⟩=some (V t)) (hM:M < w.heap.size):
  Calls Tryz.prog 95 #[.pointer (some ⟨M,0,none⟩),.agg #[V op,V a,V b,V c,V i]] w fun e w'=>
   e=.returned (.tuple #[V (wrap64 (i+s)),.bool (decide (0<=i)&&decide (i < wrap64 (t - s)))])/\More w w':=by
 have hn:¬M=w.heap.size:=by omega
 have hn':¬w.heap.size=M:=by omega
 have hc1:wrap64 (c+1)=c+1:=by unfold wrap64;omega
 have c2:c+1 < 7:=by omega
 have c3:0<=c+1:=by omega
 have c4:c < 7:=by omega
 have hwr:=J17;by_cases h0:0<=i
 ·rcases hop with rfl | rfl
  all_goals
   go_enter Tryz.func95,Tryz.ntmps95;go_wp2
   go_region
   go_wp2;go_ret2;refine⟨by simp[h0],?_⟩;exact((More.refl _).alloc _ _).drew
 ·rcases hop with rfl | rfl
  all_goals
   go_enter Tryz.func95,Tryz.ntmps95;go_wp2
   go_region
   go_wp2;go_ret2;refine⟨by simp;omega,?_⟩;exact((More.refl _).alloc _ _).drew

theorem Ja8(i:Ins)(w:World)(M:Nat)(rv cv:Value)(x:Ms)(se:List Se)(h:Run w M rv cv x se)(hop:i.op=3\/i.op=4\/i.op=5\/i.op=6)(b0:0<=i.b)(b1:i.b < 10)(c0:0<=i.c)(c1:i.c < 6)
  (s0:0<=x.st i.c.toNat) (s1:x.st i.c.toNat<=x.st (i.c.toNat+1)) (s2:x.st (i.c.toNat+1)<=384):
  Calls Tryz.prog 95 #[.pointer (some ⟨M,0,none⟩),.agg #[V i.op,V i.a,V i.b,V i.c,V i.n]] w fun e w'=>
   ∃(k:Int) (b:Bool),e=.returned (.tuple #[V k,.bool b])/\(b=true↔0<=idxI x.r i/\idxI x.r i < x.st (i.c.toNat+1) - x.st i.c.toNat)/\(b=true->k=x.st i.c.toNat+idxI x.r i)/\More w w':=by
 have ws:wrap64 (x.st (i.c.toNat+1) - x.st i.c.toNat)=x.st (i.c.toNat+1) - x.st i.c.toNat:=by unfold wrap64;omega
 have hs:=(h.st i.c.toNat (by omega)).1;have ht:=(h.st (i.c.toNat+1) (by omega)).1;rw[show i.c.toNat+1=(i.c+1).toNat by omega]at ht
 have fin:∀(e:Ending) (w':World),(e=.returned (.tuple #[V (wrap64 (idxI x.r i+x.st i.c.toNat)),.bool (decide (0<=idxI x.r i)&&decide (idxI x.r i < wrap64 (x.st (i.c.toNat+1) - x.st i.c.toNat)))])/\More w w')->
   ∃(k:Int) (b:Bool),e=.returned (.tuple #[V k,.bool b])/\(b=true↔0<=idxI x.r i/\idxI x.r i < x.st (i.c.toNat+1) - x.st i.c.toNat)/\(b=true->k=x.st i.c.toNat+idxI x.r i)/\More w w':=by
  rintro e w' ⟨rfl,m⟩;rw[ws];refine⟨_,_,rfl,by simp,fun hb=>?_,m⟩;simp at hb;unfold wrap64;omega
 by_cases h34:i.op=3\/i.op=4
 ·have hx:=(h.r i.b.toNat (by omega)).1
  have e:idxI x.r i=wrap64 (i.n+x.r i.b.toNat):=by unfold idxI;rw[if_neg (by omega),Int.add_comm]
  rw[show(i.c.toNat+1)=(i.c+1).toNat by omega]at fin |-;exact(J7q i.op i.a i.b i.c i.n _ _ _ _ w M h34 b0 b1 c0 c1 e.symm hs ht hx h.lt).mono fin
 ·have e:idxI x.r i=i.n:=by unfold idxI;rw[if_pos (by omega)]
  rw[show(i.c.toNat+1)=(i.c+1).toNat by omega]at fin |-;rw[e]at fin |-;exact(J7p i.op i.a i.b i.c i.n _ _ w M (by omega) c0 c1 hs ht h.lt).mono fin

theorem J2e(i:Ins)(how:Int)(w:World)(M:Nat)(rv cv:Value)(x:Ms)(se:List Se)(h:Run w M rv cv x se)(hl:se.length<=200000)(hop:i.op=3\/i.op=4\/i.op=5\/i.op=6)(b0:0<=i.b)(b1:i.b < 10)(c0:0<=i.c)(c1:i.c < 6)
  (s0:0<=x.st i.c.toNat) (s1:x.st i.c.toNat<=x.st (i.c.toNat+1)) (s2:x.st (i.c.toNat+1)<=384) (hin:0<=idxI x.r i/\idxI x.r i < x.st (i.c.toNat+1) - x.st i.c.toNat):
  Calls Tryz.prog 60 #[.pointer (some ⟨M,0,none⟩),.agg #[V i.op,V i.a,V i.b,V i.c,V i.n],V how] w fun e w'=>
   e=.returned (.tuple #[V (x.st i.c.toNat+idxI x.r i),.bool true])/\Run w' M rv cv x (se++[⟨2,x.st i.c.toNat+idxI x.r i,how⟩])/\Below M w w':=by
 have hN:=fun w1 (m:More w w1)=>Ja8 i w1 M rv cv x se (h.more m) hop b0 b1 c0 c1 s0 s1 s2
 obtain⟨op,a,b,c,n⟩:=i;dsimp only at*
 have HN:Hid (∀w1,More w w1->Calls Tryz.prog 95 #[.pointer (some ⟨M,0,none⟩),.agg #[V op,V a,V b,V c,V n]] w1 fun e w'=>e=.returned (.tuple #[V (x.st c.toNat+idxI x.r ⟨op,a,b,c,n⟩),.bool true])/\More w1 w'):=by
  intro w1 m;refine(hN w1 m).mono ?_;rintro e w2 ⟨k,b,rfl,h1,h2,m2⟩;obtain rfl:b=true:=h1.2 hin;rw[h2 rfl];exact⟨rfl,m2⟩
 have H:Hid (Run w M rv cv x se/\se.length<=200000):=⟨h,hl⟩;obtain⟨k,hk⟩:∃k,x.st c.toNat+idxI x.r ⟨op,a,b,c,n⟩=k:=⟨_,rfl⟩;rw[hk]at HN |-;clear hN h hl hin hk s0 s1 s2;go_enter Tryz.func60,Tryz.ntmps60;go_wp2_with (fail)
 refine(HN.out _ ((More.refl _).alloc _ _)).mono ?_;rintro e w1 ⟨rfl,m1⟩;have Hm:Hid (More w w1):=((More.refl _).alloc _ _).trans m1;clear m1;go_wp2_with (fail)
 refine(J46 _ M rv cv x se 2 k how H.out.2 (H.out.1.more Hm.out)).mono ?_;rintro e w2 ⟨rfl,r2,b2,_⟩;have H2:Hid (Run w2 M rv cv x (se++[⟨2,k,how⟩])/\Below M w1 w2):=⟨r2,b2⟩;clear r2 b2;go_wp2;go_ret2;exact⟨rfl,H2.out.1,Below.trans (Below.mono Hm.out (Nat.le_of_lt H.out.1.lt)) H2.out.2⟩

theorem J2z(i:Ins)(how:Int)(w:World)(M:Nat)(rv cv:Value)(x:Ms)(se:List Se)(h:Run w M rv cv x se)(hop:i.op=3\/i.op=4\/i.op=5\/i.op=6)(b0:0<=i.b)(b1:i.b < 10)(c0:0<=i.c)(c1:i.c < 6)
  (s0:0<=x.st i.c.toNat) (s1:x.st i.c.toNat<=x.st (i.c.toNat+1)) (s2:x.st (i.c.toNat+1)<=384) (hin:¬(0<=idxI x.r i/\idxI x.r i < x.st (i.c.toNat+1) - x.st i.c.toNat)):
  Calls Tryz.prog 60 #[.pointer (some ⟨M,0,none⟩),.agg #[V i.op,V i.a,V i.b,V i.c,V i.n],V how] w fun e w'=>
   e=.returned (.tuple #[V 0,.bool false])/\Run w' M rv cv { x with fin:=2,ended:=true } se/\Below M w w':=by
 have hN:=fun w1 (m:More w w1)=>Ja8 i w1 M rv cv x se (h.more m) hop b0 b1 c0 c1 s0 s1 s2
 obtain⟨op,a,b,c,n⟩:=i;dsimp only at*
 have HN:Hid (∀w1,More w w1->Calls Tryz.prog 95 #[.pointer (some ⟨M,0,none⟩),.agg #[V op,V a,V b,V c,V n]] w1 fun e w'=>(∃k,e=.returned (.tuple #[V k,.bool false]))/\More w1 w'):=by
  intro w1 m;refine(hN w1 m).mono ?_;rintro e w2 ⟨k,b,rfl,h1,h2,m2⟩;cases b with
  | true=>exact absurd (h1.1 rfl) hin
  | false=>exact⟨⟨k,rfl⟩,m2⟩
 have H:Hid (Run w M rv cv x se):=h;clear hN h hin s0 s1 s2;go_enter Tryz.func60,Tryz.ntmps60;go_wp2_with (fail)
 refine(HN.out _ ((More.refl _).alloc _ _)).mono ?_;rintro e w1 ⟨⟨k,rfl⟩,m1⟩;have Hm:Hid (More w w1):=((More.refl _).alloc _ _).trans m1;clear m1;go_wp2_with (fail)
 refine(J3w _ M rv cv x se 2 (H.out.more Hm.out)).mono ?_;rintro e w2 ⟨rfl,r2,b2⟩;have H2:Hid (Run w2 M rv cv { x with fin:=2,ended:=true } se/\Below M w1 w2):=⟨r2,b2⟩;clear r2 b2;go_wp2;go_ret2;exact⟨rfl,H2.out.1,Below.trans (Below.mono Hm.out (Nat.le_of_lt H.out.lt)) H2.out.2⟩
end
section
open Go.RowKit
theorem op_1(a b:Int)(w:World):
  Calls Tryz.prog 97 #[V 1,V a,V b] w fun e w'=>e=.returned (V (wrap64 (a+b)))/\w'=w:=by
 rw[<-Jmb a b];go_enter Tryz.func97,Tryz.ntmps97;go_wp2;go_ret;exact⟨rfl,rfl⟩

theorem op_2(a b:Int)(w:World):
  Calls Tryz.prog 97 #[V 2,V a,V b] w fun e w'=>e=.returned (V (wrap64 (a - b)))/\w'=w:=by
 rw[<-Jmi a b];go_enter Tryz.func97,Tryz.ntmps97;go_wp2;go_ret;exact⟨rfl,rfl⟩

theorem op_3(a b:Int)(w:World):
  Calls Tryz.prog 97 #[V 3,V a,V b] w fun e w'=>e=.returned (V (wrap64 (a*b)))/\w'=w:=by
 rw[<-Jmd a b];go_enter Tryz.func97,Tryz.ntmps97;go_wp2;go_ret;exact⟨rfl,rfl⟩

theorem op_4(a b:Int)(w:World):
  Calls Tryz.prog 97 #[V 4,V a,V b] w fun e w'=>e=.returned (V (wrap64 ((toU a &&& toU b:Nat):Int)))/\w'=w:=by
 rw[<-Jmc a b];go_enter Tryz.func97,Tryz.ntmps97;go_wp2;go_ret;exact⟨rfl,rfl⟩

theorem op_5(a b:Int)(w:World):
  Calls Tryz.prog 97 #[V 5,V a,V b] w fun e w'=>e=.returned (V (wrap64 ((toU a ||| toU b:Nat):Int)))/\w'=w:=by
 rw[<-Joj a b];go_enter Tryz.func97,Tryz.ntmps97;go_wp2;go_ret;exact⟨rfl,rfl⟩

theorem op_6(a b:Int)(w:World):
  Calls Tryz.prog 97 #[V 6,V a,V b] w fun e w'=>e=.returned (V (wrap64 ((toU a ^^^ toU b:Nat):Int)))/\w'=w:=by
 rw[<-Jmj a b];go_enter Tryz.func97,Tryz.ntmps97;go_wp2;go_ret;exact⟨rfl,rfl⟩

theorem op_7(a b:Int)(w:World):
  Calls Tryz.prog 97 #[V 7,V a,V b] w fun e w'=>e=.returned (V (wrap64 ((toU a*2 ^ (toU b % 64):Nat):Int)))/\w'=w:=by
 have h63:=and63 b;have h0:(0:Int)<=((toU b % 64:Nat):Int):=by omega
 have hk:min (toU b % 64) 64=toU b % 64:=by omega
 rw[<-Jmg a _];go_enter Tryz.func97,Tryz.ntmps97;go_wp2;go_ret;exact⟨rfl,rfl⟩

theorem op_8(a b:Int)(w:World):
  Calls Tryz.prog 97 #[V 8,V a,V b] w fun e w'=>e=.returned (V (wrap64 ((toU a / 2 ^ (toU b % 64):Nat):Int)))/\w'=w:=by
 have h63:=and63 b;have h0:(0:Int)<=((toU b % 64:Nat):Int):=by omega
 have hk:min (toU b % 64) 64=toU b % 64:=by omega
 rw[<-Jmh a _];go_enter Tryz.func97,Tryz.ntmps97;go_wp2;go_ret;exact⟨rfl,rfl⟩

theorem Jja(a b:Int)(w:World)(hy:toU b=0):
  Calls Tryz.prog 97 #[V 9,V a,V b] w fun e w'=>e=.returned (V (wrap64 ((toU a / toU b:Nat):Int)))/\w'=w:=by
 have hy':(IntKind.u64.wrap b==0)=true:=by rw[uwrap,hy];rfl
 rw[<-Jlt a b hy];go_enter Tryz.func97,Tryz.ntmps97;go_wp2;go_ret;exact⟨rfl,rfl⟩

theorem Jj9(a b:Int)(w:World)(hy:toU b≠0):
  Calls Tryz.prog 97 #[V 9,V a,V b] w fun e w'=>e=.returned (V (wrap64 ((toU a / toU b:Nat):Int)))/\w'=w:=by
 have hy':(IntKind.u64.wrap b==0)=false:=by rw[uwrap];simp[hy]
 have hy2:¬IntKind.u64.wrap b=0:=by rw[uwrap];omega
 rw[<-Jme a b];go_enter Tryz.func97,Tryz.ntmps97;go_wp2;go_ret;exact⟨rfl,rfl⟩

theorem Jhf(a b:Int)(w:World)(hy:toU b=0):
  Calls Tryz.prog 97 #[V 10,V a,V b] w fun e w'=>e=.returned (V (wrap64 ((toU a % toU b:Nat):Int)))/\w'=w:=by
 have hy':(IntKind.u64.wrap b==0)=true:=by rw[uwrap,hy];rfl
 rw[<-Jlz a b hy];go_enter Tryz.func97,Tryz.ntmps97;go_wp2;go_ret;exact⟨rfl,rfl⟩

theorem Jhe(a b:Int)(w:World)(hy:toU b≠0):
  Calls Tryz.prog 97 #[V 10,V a,V b] w fun e w'=>e=.returned (V (wrap64 ((toU a % toU b:Nat):Int)))/\w'=w:=by
 have hy':(IntKind.u64.wrap b==0)=false:=by rw[uwrap];simp[hy]
 have hy2:¬IntKind.u64.wrap b=0:=by rw[uwrap];omega
 rw[<-Jmf a b];go_enter Tryz.func97,Tryz.ntmps97;go_wp2;go_ret;exact⟨rfl,rfl⟩

theorem Jlo(op a b:Int)(w:World)(h:op < 1\/10 < op):
  Calls Tryz.prog 97 #[V op,V a,V b] w fun e w'=>e=.returned (V 0)/\w'=w:=by
 have e1:(op==1)=false:=by simp;omega
 have e2:(op==2)=false:=by simp;omega
 have e3:(op==3)=false:=by simp;omega
 have e4:(op==4)=false:=by simp;omega
 have e5:(op==5)=false:=by simp;omega
 have e6:(op==6)=false:=by simp;omega
 have e7:(op==7)=false:=by simp;omega
 have e8:(op==8)=false:=by simp;omega
 have e9:(op==9)=false:=by simp;omega
 have e10:(op==10)=false:=by simp;omega
 clear h;go_enter Tryz.func97,Tryz.ntmps97;go_wp2;go_ret;exact⟨rfl,rfl⟩

theorem Je1(a b:Int)(w:World)(h:(IntKind.u64.wrap a==IntKind.u64.wrap b)=true):
  Calls Tryz.prog 96 #[V 1,V a,V b] w fun e w'=>e=.returned (.bool true)/\w'=w.alloc (.cells #[V 1] 3):=by
 go_enter Tryz.func96,Tryz.ntmps96;go_wp2;go_ret;exact⟨rfl,rfl⟩

theorem Jgo(a b:Int)(w:World)(h:(IntKind.u64.wrap a==IntKind.u64.wrap b)=false):
  Calls Tryz.prog 96 #[V 1,V a,V b] w fun e w'=>e=.returned (.bool false)/\w'=w.alloc (.cells #[V 1] 3):=by
 go_enter Tryz.func96,Tryz.ntmps96;go_wp2;go_ret;exact⟨rfl,rfl⟩

theorem Je2(a b:Int)(w:World)(h:(IntKind.u64.wrap a != IntKind.u64.wrap b)=true):
  Calls Tryz.prog 96 #[V 2,V a,V b] w fun e w'=>e=.returned (.bool true)/\w'=w.alloc (.cells #[V 2] 3):=by
 go_enter Tryz.func96,Tryz.ntmps96;go_wp2;go_ret;exact⟨rfl,rfl⟩

theorem Jgp(a b:Int)(w:World)(h:(IntKind.u64.wrap a != IntKind.u64.wrap b)=false):
  Calls Tryz.prog 96 #[V 2,V a,V b] w fun e w'=>e=.returned (.bool false)/\w'=w.alloc (.cells #[V 2] 3):=by
 go_enter Tryz.func96,Tryz.ntmps96;go_wp2;go_ret;exact⟨rfl,rfl⟩

theorem Je3(a b:Int)(w:World)(h:decide (IntKind.u64.wrap a < IntKind.u64.wrap b)=true):
  Calls Tryz.prog 96 #[V 3,V a,V b] w fun e w'=>e=.returned (.bool true)/\w'=w.alloc (.cells #[V 3] 3):=by
 go_enter Tryz.func96,Tryz.ntmps96;go_wp2;go_ret;exact⟨rfl,rfl⟩

theorem Jgq(a b:Int)(w:World)(h:decide (IntKind.u64.wrap a < IntKind.u64.wrap b)=false):
  Calls Tryz.prog 96 #[V 3,V a,V b] w fun e w'=>e=.returned (.bool false)/\w'=w.alloc (.cells #[V 3] 3):=by
 go_enter Tryz.func96,Tryz.ntmps96;go_wp2;go_ret;exact⟨rfl,rfl⟩

theorem Je4(a b:Int)(w:World)(h:decide (IntKind.u64.wrap b<=IntKind.u64.wrap a)=true):
  Calls Tryz.prog 96 #[V 4,V a,V b] w fun e w'=>e=.returned (.bool true)/\w'=w.alloc (.cells #[V 4] 3):=by
 go_enter Tryz.func96,Tryz.ntmps96;go_wp2;go_ret;exact⟨rfl,rfl⟩

theorem Jgr(a b:Int)(w:World)(h:decide (IntKind.u64.wrap b<=IntKind.u64.wrap a)=false):
  Calls Tryz.prog 96 #[V 4,V a,V b] w fun e w'=>e=.returned (.bool false)/\w'=w.alloc (.cells #[V 4] 3):=by
 go_enter Tryz.func96,Tryz.ntmps96;go_wp2;go_ret;exact⟨rfl,rfl⟩

theorem Je6(c a b:Int)(w:World)(h1:(c==1)=false)(h2:(c==2)=false)(h3:(c==3)=false)(h4:(c==4)=false):
  Calls Tryz.prog 96 #[V c,V a,V b] w fun e w'=>e=.returned (.bool false)/\w'=w.alloc (.cells #[V c] 3):=by
 go_enter Tryz.func96,Tryz.ntmps96;go_wp2;go_ret;exact⟨rfl,rfl⟩
theorem Jbe(op a b:Int)(w:World):
  Calls Tryz.prog 97 #[V op,V a,V b] w fun e w'=>e=.returned (V (opI op a b))/\w'=w:=by
 by_cases h:op < 1\/10 < op
 ·rw[show opI op a b=0 by unfold opI;rw[if_neg (by omega),if_neg (by omega),if_neg (by omega),if_neg (by omega),if_neg (by omega),if_neg (by omega),if_neg (by omega),if_neg (by omega),if_neg (by omega),if_neg (by omega)]]
  exact Jlo op a b w h
 have hs:op=1\/op=2\/op=3\/op=4\/op=5\/op=6\/op=7\/op=8\/op=9\/op=10:=by omega
 rcases hs with rfl | rfl | rfl | rfl | rfl | rfl | rfl | rfl | rfl | rfl
 ·rw[opI_1];exact op_1 a b w
 ·rw[opI_2];exact op_2 a b w
 ·rw[opI_3];exact op_3 a b w
 ·rw[opI_4];exact op_4 a b w
 ·rw[opI_5];exact op_5 a b w
 ·rw[opI_6];exact op_6 a b w
 ·rw[opI_7];exact op_7 a b w
 ·rw[opI_8];exact op_8 a b w
 ·rw[opI_9]
  by_cases hy:toU b=0
  ·exact Jja a b w hy
  ·exact Jj9 a b w hy
 ·rw[Jp3]
  by_cases hy:toU b=0
  ·exact Jhf a b w hy
  ·exact Jhe a b w hy

theorem Je5(c a b:Int)(w:World):
  Calls Tryz.prog 96 #[V c,V a,V b] w fun e w'=>e=.returned (.bool (J1n c a b))/\w'=w.alloc (.cells #[V c] 3):=by
 by_cases h1:c=1
 ·subst h1
  rw[Jkv];cases h:(IntKind.u64.wrap a==IntKind.u64.wrap b)
  ·exact Jgo a b w h
  ·exact Je1 a b w h
 by_cases h2:c=2
 ·subst h2
  rw[Jkw];cases h:(IntKind.u64.wrap a != IntKind.u64.wrap b)
  ·exact Jgp a b w h
  ·exact Je2 a b w h
 by_cases h3:c=3
 ·subst h3
  rw[Jkx];cases h:decide (IntKind.u64.wrap a < IntKind.u64.wrap b)
  ·exact Jgq a b w h
  ·exact Je3 a b w h
 by_cases h4:c=4
 ·subst h4
  rw[Jky];cases h:decide (IntKind.u64.wrap b<=IntKind.u64.wrap a)
  ·exact Jgr a b w h
  ·exact Je4 a b w h
 rw[show J1n c a b=false by simp[J1n, *]];exact Je6 c a b w (by simp[h1]) (by simp[h2]) (by simp[h3]) (by simp[h4])
end
section
open Go.RowKit
set_option linter.unusedSimpArgs false
set_option linter.unusedVariables false
theorem seq_holds(op a b c n x y:Int)(w:World)(M:Nat)(a0:0<=a)(a1:a < 10)(b0:0<=b)(b1:b < 10)
  (hx:w.cell? ⟨M,7+a.toNat,none⟩=some (V x)) (hy:w.cell? ⟨M,7+b.toNat,none⟩=some (V y)) (hM:M < w.heap.size):
  Calls Tryz.prog 61 #[.pointer (some ⟨M,0,none⟩),.agg #[V op,V a,V b,V c,V n]] w fun e w'=>e=.returned (.bool (J1n c x y))/\More w w':=by
 have hn:¬M=w.heap.size:=by omega
 have hn':¬w.heap.size=M:=by omega
 have Hh:Hid (∀w:World,Calls Tryz.prog 96 #[V c,V x,V y] w fun e w'=>e=.returned (.bool (J1n c x y))/\More w w'):=fun w=>(Je5 c x y w).mono (by rintro e w' ⟨rfl,rfl⟩;exact⟨rfl,(More.refl _).alloc _ _⟩)
 obtain⟨h,hh⟩:∃h,J1n c x y=h:=⟨_,rfl⟩;rw[hh]at Hh |-;clear hh;obtain⟨S,HS⟩:∃S:World->Prop,Hid (∀w',S w'↔More (w.alloc (.cells #[V op,V a,V b,V c,V n] 41)) w'):=⟨_,fun _=>Iff.rfl⟩;have k1:∀i:{ w' // S w' },i.val.cell? ⟨w.heap.size,1,none⟩=some (V a):=fun i=>((HS.out _).1 i.property).cell (by go_simp)
 have k2:∀i:{ w' // S w' },i.val.cell? ⟨w.heap.size,2,none⟩=some (V b):=fun i=>((HS.out _).1 i.property).cell (by go_simp)
 have k3:∀i:{ w' // S w' },i.val.cell? ⟨w.heap.size,3,none⟩=some (V c):=fun i=>((HS.out _).1 i.property).cell (by go_simp)
 have ka:∀i:{ w' // S w' },i.val.cell? ⟨M,7+a.toNat,none⟩=some (V x):=fun i=>((HS.out _).1 i.property).cell (by go_simp)
 have kb:∀i:{ w' // S w' },i.val.cell? ⟨M,7+b.toNat,none⟩=some (V y):=fun i=>((HS.out _).1 i.property).cell (by go_simp)
 have hne:Nonempty { w' // S w' }:=⟨⟨_,(HS.out _).2 (More.refl _)⟩⟩;go_enter Tryz.func61,Tryz.ntmps61;go_wp2_with (fail)
 refine J04 (S:=S) [(0,true),(1,true),(2,true),(3,true),(4,true),(5,true),(6,true),(7,true),(8,true),(9,true),(10,true),(11,true),(12,true),(13,true),(14,true),(15,true),(16,true),(17,true),(18,false),(19,true)] (by kernel_rfl) (by kernel_rfl) (by kernel_rfl) ((HS.out _).2 (More.refl _).drew) ?_
 iterate 18 (refine J00 rfl (by kernel_rfl) (fun K hK=>?_);go_simp;refine hK _ _ ?_;clear hK K)
 refine J03 rfl (by kernel_rfl) (fun K hK=>?_);go_simp;refine(Hh.out _).mono ?_;rintro e w5 ⟨rfl,m5⟩;have Hm5:Hid (More (w.alloc (.cells #[V op,V a,V b,V c,V n] 41)) w5):=(More.refl _).drew.trans m5;clear m5
 go_simp
 refine hK _ _ ((HS.out _).2 Hm5.out) ?_;clear hK K;refine J00 rfl (by kernel_rfl) (fun K hK=>?_);go_simp;refine hK _ _ ?_;clear hK K;refine J06 ?_;clear k1 k2 k3 ka kb hne;go_wp2;go_ret;exact⟨rfl,((More.refl _).alloc _ _).trans Hm5.out⟩

theorem J5i(op a b c n:Int)(w:World)(M:Nat)(rv cv:Value)(x:Ms)(se:List Se)(h:Run w M rv cv x se)(o0:21<=op)(o1:op<=30)(h9:¬op=29)(h10:¬op=30)(a0:0<=a)(a1:a < 10)(b0:0<=b)(b1:b < 10)(c0:0<=c)(c1:c < 10):
  Calls Tryz.prog 62 #[.pointer (some ⟨M,0,none⟩),.agg #[V op,V a,V b,V c,V n]] w fun e w'=>
   e=.returned (.tuple #[])/\Run w' M rv cv { x with r:=setR x.r a (opI (op - 20) (x.r b.toNat) (x.r c.toNat))} se/\Below M w w':=by
 have hM:=h.lt;have hn:¬M=w.heap.size:=by omega
 have hn':¬w.heap.size=M:=by omega
 have hw:wrap64 (op - 20)=op - 20:=by unfold wrap64;omega
 have hwr:=J17;have t9:(op - 20==9)=false:=by simp;omega
 have t10:(op - 20==10)=false:=by simp;omega
 have t9':¬op - 20=9:=by omega
 have t10':¬op - 20=10:=by omega
 obtain⟨ya,fa⟩:=h.r a.toNat (by omega);have yb:=(h.r b.toNat (by omega)).1;have yc:=(h.r c.toNat (by omega)).1;obtain⟨y,hy⟩:∃y,x.r b.toNat=y:=⟨_,rfl⟩;obtain⟨z,hz⟩:∃z,x.r c.toNat=z:=⟨_,rfl⟩;rw[hy]at yb |-;rw[hz]at yc |-;have Hh:Hid (∀w:World,Calls Tryz.prog 97 #[V (op - 20),V y,V z] w fun e w'=>e=.returned (V (opI (op - 20) y z))/\w'=w):=fun w=>Jbe _ _ _ w
 obtain⟨q,hq⟩:∃q,opI (op - 20) y z=q:=⟨_,rfl⟩;rw[hq]at Hh |-;have H:Hid (Run w M rv cv x se):=h;have Ha:Hid (a.toNat < 10):=(by omega:a.toNat < 10);clear hq hy hz h;obtain⟨S,HS⟩:∃S:World->Prop,Hid (∀w',S w'↔w'.cell? ⟨w.heap.size,1,none⟩=some (V a)):=⟨_,fun _=>Iff.rfl⟩;have k1:∀i:{ w' // S w' },i.val.cell? ⟨w.heap.size,1,none⟩=some (V a):=fun i=>(HS.out _).1 i.property
 have hne:Nonempty { w' // S w' }:=⟨⟨w.alloc (.cells #[V op,V a,V b,V c,V n] 41),(HS.out _).2 (by go_simp)⟩⟩;go_enter Tryz.func62,Tryz.ntmps62;go_wp2
 go_region
 go_wp2_with (fail)
 refine J04 (S:=S) [(0,true),(1,true),(2,true),(3,true),(4,true),(5,true),(7,true),(8,true),(9,true),(6,false),(10,true),(11,false)] (by kernel_rfl) (by kernel_rfl) (by kernel_rfl) ?_ ?_
 ·exact(HS.out _).2 (by go_simp)
 iterate 9 (refine J00 rfl (by kernel_rfl) (fun K hK=>?_);go_simp;refine hK _ _ ?_;clear hK K)
 refine J03 rfl (by kernel_rfl) (fun K hK=>?_);go_simp;refine(Hh.out _).mono ?_;rintro e w5 ⟨rfl,rfl⟩
 go_simp
 refine hK _ _ ((HS.out _).2 (by go_simp)) ?_;clear hK K;refine J00 rfl (by kernel_rfl) (fun K hK=>?_);go_simp;refine hK _ _ ?_;clear hK K;refine J03 rfl (by kernel_rfl) (fun K hK=>?_);go_simp;refine hK _ _ ((HS.out _).2 (by go_simp)) ?_;clear hK K;refine J06 ?_;clear k1 hne;go_wp2;go_end0;exact⟨rfl,((((H.out.setR a.toNat Ha.out q).alloc _).drew).drew),J0a (J0a (J07 (J0f (Below.refl _ _) _ _) (by have:=H.out.lt;simp;omega) _))⟩

theorem J5g(a b c n:Int)(w:World)(M:Nat)(rv cv:Value)(x:Ms)(se:List Se)(h:Run w M rv cv x se)(hl:se.length<=200000)(a0:0<=a)(a1:a < 10)(b0:0<=b)(b1:b < 10)(c0:0<=c)(c1:c < 10):
  Calls Tryz.prog 62 #[.pointer (some ⟨M,0,none⟩),.agg #[V 29,V a,V b,V c,V n]] w fun e w'=>
   e=.returned (.tuple #[])/\Run w' M rv cv { x with r:=setR x.r a (opI (29 - 20) (x.r b.toNat) (x.r c.toNat))} (se++[⟨3,x.r b.toNat,x.r c.toNat⟩])/\Below M w w':=by
 have hM:=h.lt;have hn:¬M=w.heap.size:=by omega
 have hn':¬w.heap.size=M:=by omega
 have hwr:=J17;have yb:=(h.r b.toNat (by omega)).1;have yc:=(h.r c.toNat (by omega)).1;obtain⟨y,hy⟩:∃y,x.r b.toNat=y:=⟨_,rfl⟩;obtain⟨z,hz⟩:∃z,x.r c.toNat=z:=⟨_,rfl⟩;rw[hy]at yb |-;rw[hz]at yc |-;have Hl:Hid (se.length<=200000):=hl;have H:Hid (Run w M rv cv x se):=h;have Ha:Hid (a.toNat < 10):=(by omega:a.toNat < 10);have w9:wrap64 9=9:=by unfold wrap64;omega
 have w10:wrap64 10=10:=by unfold wrap64;omega
 have Hh:Hid (∀w:World,Calls Tryz.prog 97 #[V 9,V y,V z] w fun e w'=>e=.returned (V (opI (29 - 20) y z))/\w'=w):=fun w=>Jbe _ _ _ w
 obtain⟨q,hq⟩:∃q,opI (29 - 20) y z=q:=⟨_,rfl⟩;rw[hq]at Hh |-;clear hq hy hz h hl;go_enter Tryz.func62,Tryz.ntmps62;go_wp2
 go_region
 go_wp2_with (fail)
 refine(J46 _ M rv cv x se 3 y z Hl.out (H.out.alloc _).drew).mono ?_;rintro e w2 ⟨rfl,r2,b2,kp⟩;have kb:=kp w.heap.size (by simp) (by omega) (fun sv hsv=>H.out.notOwn w.heap.size (Nat.le_refl _) sv (by rw[<-hsv];exact(World.cell?_of_block ((World.grownBy_alloc w _ none).block M hM (by simp))).symm));have q1:w2.cell? ⟨w.heap.size,1,none⟩=some (V a):=by rw[World.cell?_of_block kb.1];go_simp
 have H2:Hid (Run w2 M rv cv x (se++[⟨3,y,z⟩])/\Below M (w.alloc (.cells #[V 29,V a,V b,V c,V n] 41)).drew w2):=⟨r2,b2⟩;obtain⟨ya,fa⟩:=r2.r a.toNat Ha.out;clear r2 b2 kp kb;obtain⟨S,HS⟩:∃S:World->Prop,Hid (∀w',S w'↔w'.cell? ⟨w.heap.size,1,none⟩=some (V a)):=⟨_,fun _=>Iff.rfl⟩;have k1:∀i:{ w' // S w' },i.val.cell? ⟨w.heap.size,1,none⟩=some (V a):=fun i=>(HS.out _).1 i.property
 have hne:Nonempty { w' // S w' }:=⟨⟨w2,(HS.out _).2 q1⟩⟩;go_wp2_with (fail)
 refine J04 (S:=S) [(0,true),(1,true),(2,true),(3,true),(4,true),(5,true),(7,true),(8,true),(9,true),(6,false),(10,true),(11,false)] (by kernel_rfl) (by kernel_rfl) (by kernel_rfl) ?_ ?_
 ·exact(HS.out _).2 (by go_simp)
 iterate 9 (refine J00 rfl (by kernel_rfl) (fun K hK=>?_);go_simp;refine hK _ _ ?_;clear hK K)
 refine J03 rfl (by kernel_rfl) (fun K hK=>?_);go_simp;refine(Hh.out _).mono ?_;rintro e w5 ⟨rfl,rfl⟩
 go_simp
 refine hK _ _ ((HS.out _).2 (by go_simp)) ?_;clear hK K;refine J00 rfl (by kernel_rfl) (fun K hK=>?_);go_simp;refine hK _ _ ?_;clear hK K;refine J03 rfl (by kernel_rfl) (fun K hK=>?_);go_simp;refine hK _ _ ((HS.out _).2 (by go_simp)) ?_;clear hK K;refine J06 ?_;clear k1 hne;go_wp2;go_end0;exact⟨rfl,(H2.out.1.drew.setR a.toNat Ha.out q),J0f (J0a (Below.trans (J0a (J07 (Below.refl _ _) (Nat.le_of_lt H.out.lt) _)) H2.out.2)) _ _⟩

theorem J5h(a b c n:Int)(w:World)(M:Nat)(rv cv:Value)(x:Ms)(se:List Se)(h:Run w M rv cv x se)(hl:se.length<=200000)(a0:0<=a)(a1:a < 10)(b0:0<=b)(b1:b < 10)(c0:0<=c)(c1:c < 10):
  Calls Tryz.prog 62 #[.pointer (some ⟨M,0,none⟩),.agg #[V 30,V a,V b,V c,V n]] w fun e w'=>
   e=.returned (.tuple #[])/\Run w' M rv cv { x with r:=setR x.r a (opI (30 - 20) (x.r b.toNat) (x.r c.toNat))} (se++[⟨3,x.r b.toNat,x.r c.toNat⟩])/\Below M w w':=by
 have hM:=h.lt;have hn:¬M=w.heap.size:=by omega
 have hn':¬w.heap.size=M:=by omega
 have hwr:=J17;have yb:=(h.r b.toNat (by omega)).1;have yc:=(h.r c.toNat (by omega)).1;obtain⟨y,hy⟩:∃y,x.r b.toNat=y:=⟨_,rfl⟩;obtain⟨z,hz⟩:∃z,x.r c.toNat=z:=⟨_,rfl⟩;rw[hy]at yb |-;rw[hz]at yc |-;have Hl:Hid (se.length<=200000):=hl;have H:Hid (Run w M rv cv x se):=h;have Ha:Hid (a.toNat < 10):=(by omega:a.toNat < 10);have w9:wrap64 9=9:=by unfold wrap64;omega
 have w10:wrap64 10=10:=by unfold wrap64;omega
 have Hh:Hid (∀w:World,Calls Tryz.prog 97 #[V 10,V y,V z] w fun e w'=>e=.returned (V (opI (30 - 20) y z))/\w'=w):=fun w=>Jbe _ _ _ w
 obtain⟨q,hq⟩:∃q,opI (30 - 20) y z=q:=⟨_,rfl⟩;rw[hq]at Hh |-;clear hq hy hz h hl;go_enter Tryz.func62,Tryz.ntmps62;go_wp2
 go_region
 go_wp2_with (fail)
 refine(J46 _ M rv cv x se 3 y z Hl.out (H.out.alloc _).drew).mono ?_;rintro e w2 ⟨rfl,r2,b2,kp⟩;have kb:=kp w.heap.size (by simp) (by omega) (fun sv hsv=>H.out.notOwn w.heap.size (Nat.le_refl _) sv (by rw[<-hsv];exact(World.cell?_of_block ((World.grownBy_alloc w _ none).block M hM (by simp))).symm));have q1:w2.cell? ⟨w.heap.size,1,none⟩=some (V a):=by rw[World.cell?_of_block kb.1];go_simp
 have H2:Hid (Run w2 M rv cv x (se++[⟨3,y,z⟩])/\Below M (w.alloc (.cells #[V 30,V a,V b,V c,V n] 41)).drew w2):=⟨r2,b2⟩;obtain⟨ya,fa⟩:=r2.r a.toNat Ha.out;clear r2 b2 kp kb;obtain⟨S,HS⟩:∃S:World->Prop,Hid (∀w',S w'↔w'.cell? ⟨w.heap.size,1,none⟩=some (V a)):=⟨_,fun _=>Iff.rfl⟩;have k1:∀i:{ w' // S w' },i.val.cell? ⟨w.heap.size,1,none⟩=some (V a):=fun i=>(HS.out _).1 i.property
 have hne:Nonempty { w' // S w' }:=⟨⟨w2,(HS.out _).2 q1⟩⟩;go_wp2_with (fail)
 refine J04 (S:=S) [(0,true),(1,true),(2,true),(3,true),(4,true),(5,true),(7,true),(8,true),(9,true),(6,false),(10,true),(11,false)] (by kernel_rfl) (by kernel_rfl) (by kernel_rfl) ?_ ?_
 ·exact(HS.out _).2 (by go_simp)
 iterate 9 (refine J00 rfl (by kernel_rfl) (fun K hK=>?_);go_simp;refine hK _ _ ?_;clear hK K)
 refine J03 rfl (by kernel_rfl) (fun K hK=>?_);go_simp;refine(Hh.out _).mono ?_;rintro e w5 ⟨rfl,rfl⟩
 go_simp
 refine hK _ _ ((HS.out _).2 (by go_simp)) ?_;clear hK K;refine J00 rfl (by kernel_rfl) (fun K hK=>?_);go_simp;refine hK _ _ ?_;clear hK K;refine J03 rfl (by kernel_rfl) (fun K hK=>?_);go_simp;refine hK _ _ ((HS.out _).2 (by go_simp)) ?_;clear hK K;refine J06 ?_;clear k1 hne;go_wp2;go_end0;exact⟨rfl,(H2.out.1.drew.setR a.toNat Ha.out q),J0f (J0a (Below.trans (J0a (J07 (Below.refl _ _) (Nat.le_of_lt H.out.lt) _)) H2.out.2)) _ _⟩
end
section
open Go.RowKit
set_option linter.unusedSimpArgs false
set_option linter.unusedVariables false
set_option maxRecDepth 8000
theorem do_1(a b c n:Int)(w:World)(M:Nat)(rv cv:Value)(x:Ms)(se:List Se)(h:Run w M rv cv x se)(a0:0<=a)(a1:a < 10)  :
  Calls Tryz.prog 26 #[.pointer (some ⟨M,0,none⟩),.agg #[V 1,V a,V b,V c,V n]] w fun e w'=>e=.returned (.tuple #[])/\Run w' M rv cv { x with r:=setR x.r a n } se/\Below M w w':=by
 have hM:=h.lt;have hn:¬M=w.heap.size:=by omega
 have hn':¬w.heap.size=M:=by omega
 have hwr:=J17;have H:Hid (Run w M rv cv x se):=h;have Ha:Hid (a.toNat < 10):=(by omega:a.toNat < 10);obtain⟨ya,fa⟩:=h.r a.toNat (by omega);clear h;go_enter Tryz.func26,Tryz.ntmps26;go_wp2
 go_region
 go_wp2;go_end0;exact⟨rfl,(((H.out.setR a.toNat Ha.out n).alloc _).drew),J0a (J07 (J0f (Below.refl _ _) _ _) (by have:=H.out.lt;simp;omega) _)⟩

theorem do_12(a b c n:Int)(w:World)(M:Nat)(rv cv:Value)(x:Ms)(se:List Se)(h:Run w M rv cv x se)(a0:0<=a)(a1:a < 10)  :
  Calls Tryz.prog 26 #[.pointer (some ⟨M,0,none⟩),.agg #[V 12,V a,V b,V c,V n]] w fun e w'=>e=.returned (.tuple #[])/\Run w' M rv cv x se/\Below M w w':=by
 have hM:=h.lt;have hn:¬M=w.heap.size:=by omega
 have hn':¬w.heap.size=M:=by omega
 have hwr:=J17;have H:Hid (Run w M rv cv x se):=h;have Ha:Hid (a.toNat < 10):=(by omega:a.toNat < 10);clear h;go_enter Tryz.func26,Tryz.ntmps26;go_wp2
 go_region
 go_wp2;go_end0;exact⟨rfl,((H.out.alloc _).drew),J0a (J07 (Below.refl _ _) (Nat.le_of_lt H.out.lt) _)⟩

theorem do_7(a b c n:Int)(w:World)(M:Nat)(rv cv:Value)(x:Ms)(se:List Se)(h:Run w M rv cv x se)(a0:0<=a)(a1:a < 10)  :
  Calls Tryz.prog 26 #[.pointer (some ⟨M,0,none⟩),.agg #[V 7,V a,V b,V c,V n]] w fun e w'=>e=.returned (.tuple #[])/\Run w' M rv cv { x with next:=n } se/\Below M w w':=by
 have hM:=h.lt;have hn:¬M=w.heap.size:=by omega
 have hn':¬w.heap.size=M:=by omega
 have hwr:=J17;have H:Hid (Run w M rv cv x se):=h;have Ha:Hid (a.toNat < 10):=(by omega:a.toNat < 10);obtain⟨ya,fa⟩:=h.next;clear h;go_enter Tryz.func26,Tryz.ntmps26;go_wp2
 go_region
 go_wp2;go_end0;exact⟨rfl,(((H.out.setNext n).alloc _).drew),J0a (J07 (J0f (Below.refl _ _) _ _) (by have:=H.out.lt;simp;omega) _)⟩

theorem do_2(a b c n:Int)(w:World)(M:Nat)(rv cv:Value)(x:Ms)(se:List Se)(h:Run w M rv cv x se)(a0:0<=a)(a1:a < 10)(b0:0<=b)(b1:b < 10):
  Calls Tryz.prog 26 #[.pointer (some ⟨M,0,none⟩),.agg #[V 2,V a,V b,V c,V n]] w fun e w'=>e=.returned (.tuple #[])/\Run w' M rv cv { x with r:=setR x.r a (x.r b.toNat)} se/\Below M w w':=by
 have hM:=h.lt;have hn:¬M=w.heap.size:=by omega
 have hn':¬w.heap.size=M:=by omega
 have hwr:=J17;have H:Hid (Run w M rv cv x se):=h;have Ha:Hid (a.toNat < 10):=(by omega:a.toNat < 10);obtain⟨ya,fa⟩:=h.r a.toNat (by omega);have yb:=(h.r b.toNat (by omega)).1;obtain⟨y,hy⟩:∃y,x.r b.toNat=y:=⟨_,rfl⟩;rw[hy]at yb |-;clear h hy;go_enter Tryz.func26,Tryz.ntmps26;go_wp2
 go_region
 go_wp2_with (fail)
 go_region
 go_wp2;go_end0;exact⟨rfl,(((H.out.setR a.toNat Ha.out y).alloc _).drew.drew),J0a (J0a (J07 (J0f (Below.refl _ _) _ _) (by have:=H.out.lt;simp;omega) _))⟩

theorem do_10(a b c n:Int)(w:World)(M:Nat)(rv cv:Value)(x:Ms)(se:List Se)(h:Run w M rv cv x se)(a0:0<=a)(a1:a < 10)(b0:0<=b)(b1:b < 10):
  Calls Tryz.prog 26 #[.pointer (some ⟨M,0,none⟩),.agg #[V 10,V a,V b,V c,V n]] w fun e w'=>e=.returned (.tuple #[])/\Run w' M rv cv { x with r:=setR x.r a (wrap64 (x.r b.toNat+n))} se/\Below M w w':=by
 have hM:=h.lt;have hn:¬M=w.heap.size:=by omega
 have hn':¬w.heap.size=M:=by omega
 have hwr:=J17;have H:Hid (Run w M rv cv x se):=h;have Ha:Hid (a.toNat < 10):=(by omega:a.toNat < 10);obtain⟨ya,fa⟩:=h.r a.toNat (by omega);have yb:=(h.r b.toNat (by omega)).1;obtain⟨y,hy⟩:∃y,x.r b.toNat=y:=⟨_,rfl⟩;rw[hy]at yb |-;clear h hy;go_enter Tryz.func26,Tryz.ntmps26;go_wp2
 go_region
 go_wp2_with (fail)
 go_region
 go_wp2;go_end0;exact⟨rfl,(((H.out.setR a.toNat Ha.out (wrap64 (y+n))).alloc _).drew.drew),J0a (J0a (J07 (J0f (Below.refl _ _) _ _) (by have:=H.out.lt;simp;omega) _))⟩

theorem do_9(a b c n:Int)(w:World)(M:Nat)(rv cv:Value)(x:Ms)(se:List Se)(h:Run w M rv cv x se)(a0:0<=a)(a1:a < 10)  :
  Calls Tryz.prog 26 #[.pointer (some ⟨M,0,none⟩),.agg #[V 9,V a,V b,V c,V n]] w fun e w'=>e=.returned (.tuple #[])/\Run w' M rv cv { x with val:=x.r a.toNat,fin:=1,ended:=true } se/\Below M w w':=by
 have hM:=h.lt;have hn:¬M=w.heap.size:=by omega
 have hn':¬w.heap.size=M:=by omega
 have hwr:=J17;have H:Hid (Run w M rv cv x se):=h;have Ha:Hid (a.toNat < 10):=(by omega:a.toNat < 10);have ya:=(h.r a.toNat (by omega)).1;obtain⟨yv,fv⟩:=h.val;obtain⟨y,hy⟩:∃y,x.r a.toNat=y:=⟨_,rfl⟩;rw[hy]at ya |-;clear h hy;go_enter Tryz.func26,Tryz.ntmps26;go_wp2
 go_region
 go_wp2_with (fail)
 refine(J3w _ M rv cv { x with val:=y } se 1 (((H.out.setVal y).alloc _).drew)).mono ?_;rintro e w2 ⟨rfl,r2,b2⟩;have H2:Hid (Run w2 M rv cv { x with val:=y,fin:=1,ended:=true } se/\Below M w w2):=⟨r2,Below.trans (J0a (J07 (J0f (Below.refl _ _) _ _) (by have:=H.out.lt;simp;omega) _)) b2⟩;clear r2 b2;go_wp2;go_end0;exact⟨rfl,H2.out.1,H2.out.2⟩

theorem do_8y(a b c n:Int)(w:World)(M:Nat)(rv cv:Value)(x:Ms)(se:List Se)(h:Run w M rv cv x se)(a0:0<=a)(a1:a < 10)(b0:0<=b)(b1:b < 10)(hh:J1n c (x.r a.toNat) (x.r b.toNat)=true):
  Calls Tryz.prog 26 #[.pointer (some ⟨M,0,none⟩),.agg #[V 8,V a,V b,V c,V n]] w fun e w'=>e=.returned (.tuple #[])/\Run w' M rv cv { x with next:=n } se/\Below M w w':=by
 have hM:=h.lt;have hn:¬M=w.heap.size:=by omega
 have hn':¬w.heap.size=M:=by omega
 have hwr:=J17;have H:Hid (Run w M rv cv x se):=h;have Ha:Hid (a.toNat < 10):=(by omega:a.toNat < 10)
 have Hh:Hid (∀w1,More w w1->Calls Tryz.prog 61 #[.pointer (some ⟨M,0,none⟩),.agg #[V 8,V a,V b,V c,V n]] w1 fun e w'=>e=.returned (.bool true)/\More w1 w'):=fun w1 m=>by
  have:=seq_holds 8 a b c n (x.r a.toNat) (x.r b.toNat) w1 M a0 a1 b0 b1 ((h.more m).r a.toNat (by omega)).1 ((h.more m).r b.toNat (by omega)).1 (h.more m).lt;rw[hh]at this;exact this
 clear h hh;go_enter Tryz.func26,Tryz.ntmps26;go_wp2
 go_region
 go_wp2_with (fail)
 refine(Hh.out _ ((More.refl _).alloc _ _).drew).mono ?_;rintro e w2 ⟨rfl,m2⟩;have j4:w2.cell? ⟨w.heap.size,4,none⟩=some (V n):=m2.cell (by go_simp);have Hm:Hid (More w w2):=((More.refl _).alloc _ _).drew.trans m2;clear m2;obtain⟨yv,fv⟩:=(H.out.more Hm.out).next;go_wp2;go_end0;exact⟨rfl,(H.out.more Hm.out).setNext n,J0f (Below.mono Hm.out (Nat.le_of_lt H.out.lt)) _ _⟩

theorem do_8n(a b c n:Int)(w:World)(M:Nat)(rv cv:Value)(x:Ms)(se:List Se)(h:Run w M rv cv x se)(a0:0<=a)(a1:a < 10)(b0:0<=b)(b1:b < 10)(hh:J1n c (x.r a.toNat) (x.r b.toNat)=false):
  Calls Tryz.prog 26 #[.pointer (some ⟨M,0,none⟩),.agg #[V 8,V a,V b,V c,V n]] w fun e w'=>e=.returned (.tuple #[])/\Run w' M rv cv x se/\Below M w w':=by
 have hM:=h.lt;have hn:¬M=w.heap.size:=by omega
 have hn':¬w.heap.size=M:=by omega
 have hwr:=J17;have H:Hid (Run w M rv cv x se):=h;have Ha:Hid (a.toNat < 10):=(by omega:a.toNat < 10)
 have Hh:Hid (∀w1,More w w1->Calls Tryz.prog 61 #[.pointer (some ⟨M,0,none⟩),.agg #[V 8,V a,V b,V c,V n]] w1 fun e w'=>e=.returned (.bool false)/\More w1 w'):=fun w1 m=>by
  have:=seq_holds 8 a b c n (x.r a.toNat) (x.r b.toNat) w1 M a0 a1 b0 b1 ((h.more m).r a.toNat (by omega)).1 ((h.more m).r b.toNat (by omega)).1 (h.more m).lt;rw[hh]at this;exact this
 clear h hh;go_enter Tryz.func26,Tryz.ntmps26;go_wp2
 go_region
 go_wp2_with (fail)
 refine(Hh.out _ ((More.refl _).alloc _ _).drew).mono ?_;rintro e w2 ⟨rfl,m2⟩;have j4:w2.cell? ⟨w.heap.size,4,none⟩=some (V n):=m2.cell (by go_simp);have Hm:Hid (More w w2):=((More.refl _).alloc _ _).drew.trans m2;clear m2;obtain⟨yv,fv⟩:=(H.out.more Hm.out).next;go_wp2;go_end0;exact⟨rfl,H.out.more Hm.out,Below.mono Hm.out (Nat.le_of_lt H.out.lt)⟩

theorem Jia(a b c n y:Int)(w:World)(M:Nat)(rv cv:Value)(x:Ms)(se:List Se)(h:Run w M rv cv x se)(a0:0<=a)(a1:a < 10)(hy:x.r a.toNat=y)(hl:y < 0):
  Calls Tryz.prog 26 #[.pointer (some ⟨M,0,none⟩),.agg #[V 11,V a,V b,V c,V n]] w fun e w'=>e=.returned (.tuple #[])/\Run w' M rv cv { x with r:=setR x.r a 0 } se/\Below M w w':=by
 have hM:=h.lt;have hn:¬M=w.heap.size:=by omega
 have hn':¬w.heap.size=M:=by omega
 have hwr:=J17;have H:Hid (Run w M rv cv x se):=h;have Ha:Hid (a.toNat < 10):=(by omega:a.toNat < 10);obtain⟨ya,fa⟩:=h.r a.toNat (by omega);rw[hy]at ya;clear h hy;go_enter Tryz.func26,Tryz.ntmps26;go_wp2
 go_region
 go_wp2_with (fail)
 go_region
 go_wp2;go_end0;exact⟨rfl,(((H.out.setR a.toNat Ha.out 0).alloc _).drew.drew),J0a (J0a (J07 (J0f (Below.refl _ _) _ _) (by have:=H.out.lt;simp;omega) _))⟩

theorem Ji8(a b c n y:Int)(w:World)(M:Nat)(rv cv:Value)(x:Ms)(se:List Se)(h:Run w M rv cv x se)(a0:0<=a)(a1:a < 10)(hy:x.r a.toNat=y)(hl:¬y < 0)(hh:n<=y):
  Calls Tryz.prog 26 #[.pointer (some ⟨M,0,none⟩),.agg #[V 11,V a,V b,V c,V n]] w fun e w'=>e=.returned (.tuple #[])/\Run w' M rv cv { x with r:=setR x.r a 0 } se/\Below M w w':=by
 have hM:=h.lt;have hn:¬M=w.heap.size:=by omega
 have hn':¬w.heap.size=M:=by omega
 have hwr:=J17;have H:Hid (Run w M rv cv x se):=h;have Ha:Hid (a.toNat < 10):=(by omega:a.toNat < 10);obtain⟨ya,fa⟩:=h.r a.toNat (by omega);rw[hy]at ya;clear h hy;have hl':decide (y < 0)=false:=by simp;omega
 go_enter Tryz.func26,Tryz.ntmps26;go_wp2
 go_region
 go_wp2_with (fail)
 go_region
 go_wp2;go_end0;exact⟨rfl,(((H.out.setR a.toNat Ha.out 0).alloc _).drew.drew),J0a (J0a (J07 (J0f (Below.refl _ _) _ _) (by have:=H.out.lt;simp;omega) _))⟩

theorem Ji9(a b c n y:Int)(w:World)(M:Nat)(rv cv:Value)(x:Ms)(se:List Se)(h:Run w M rv cv x se)(a0:0<=a)(a1:a < 10)(hy:x.r a.toNat=y)(hl:¬y < 0)(hh:y < n):
  Calls Tryz.prog 26 #[.pointer (some ⟨M,0,none⟩),.agg #[V 11,V a,V b,V c,V n]] w fun e w'=>e=.returned (.tuple #[])/\Run w' M rv cv x se/\Below M w w':=by
 have hM:=h.lt;have hn:¬M=w.heap.size:=by omega
 have hn':¬w.heap.size=M:=by omega
 have hwr:=J17;have H:Hid (Run w M rv cv x se):=h;have Ha:Hid (a.toNat < 10):=(by omega:a.toNat < 10);obtain⟨ya,fa⟩:=h.r a.toNat (by omega);rw[hy]at ya;clear h hy;have hl':decide (y < 0)=false:=by simp;omega
 go_enter Tryz.func26,Tryz.ntmps26;go_wp2
 go_region
 go_wp2_with (fail)
 go_region
 go_wp2;go_end0;exact⟨rfl,((H.out.alloc _).drew.drew),J0a (J0a (J07 (Below.refl _ _) (Nat.le_of_lt H.out.lt) _))⟩

theorem Jgf(a b c n k:Int)(w:World)(M:Nat)(rv cv:Value)(x:Ms)(se:List Se)(h:Run w M rv cv x se)(a0:0<=a)(a1:a < 10)(se2:List Se)(k0:0<=k)(k1:k < 384)(hR:∀w1,More w w1->Calls Tryz.prog 60 #[.pointer (some ⟨M,0,none⟩),.agg #[V 3,V a,V b,V c,V n],V 0] w1 fun e w'=>e=.returned (.tuple #[V k,.bool true])/\Run w' M rv cv x se2/\Below M w1 w'):
  Calls Tryz.prog 26 #[.pointer (some ⟨M,0,none⟩),.agg #[V 3,V a,V b,V c,V n]] w fun e w'=>e=.returned (.tuple #[])/\Run w' M rv cv { x with r:=setR x.r a (x.wd k.toNat)} se2/\Below M w w':=by
 have hM:=h.lt;have hn:¬M=w.heap.size:=by omega
 have hn':¬w.heap.size=M:=by omega
 have hwr:=J17;have H:Hid (Run w M rv cv x se):=h;have Ha:Hid (a.toNat < 10):=(by omega:a.toNat < 10);have HR:Hid (∀w1,More w w1->Calls Tryz.prog 60 #[.pointer (some ⟨M,0,none⟩),.agg #[V 3,V a,V b,V c,V n],V 0] w1 fun e w'=>e=.returned (.tuple #[V k,.bool true])/\Run w' M rv cv x se2/\Below M w1 w'):=hR;have Hk:Hid (k.toNat < 384):=(by omega:k.toNat < 384);obtain⟨y,hy⟩:∃y,x.wd k.toNat=y:=⟨_,rfl⟩;rw[hy];have Hy:Hid (x.wd k.toNat=y):=hy;clear h hR hy;go_enter Tryz.func26,Tryz.ntmps26;go_wp2
 go_region
 go_wp2_with (fail)
 refine(HR.out _ ((More.refl _).alloc _ _).drew).mono ?_;rintro e w2 ⟨rfl,r2,b2⟩;have H2:Hid (Run w2 M rv cv x se2/\Below M w w2):=⟨r2,Below.trans (J0a (J07 (Below.refl _ _) (Nat.le_of_lt H.out.lt) _)) b2⟩;obtain⟨ya,fa⟩:=r2.r a.toNat Ha.out;have yk:=(r2.wd k.toNat Hk.out).1;rw[Hy.out]at yk;clear r2 b2;go_wp2;go_end0;exact⟨rfl,(H2.out.1.setR a.toNat Ha.out y),J0f H2.out.2 _ _⟩

theorem Jgh(a b c n k:Int)(w:World)(M:Nat)(rv cv:Value)(x:Ms)(se:List Se)(h:Run w M rv cv x se)(a0:0<=a)(a1:a < 10)(se2:List Se)(k0:0<=k)(k1:k < 384)(hR:∀w1,More w w1->Calls Tryz.prog 60 #[.pointer (some ⟨M,0,none⟩),.agg #[V 5,V a,V b,V c,V n],V 0] w1 fun e w'=>e=.returned (.tuple #[V k,.bool true])/\Run w' M rv cv x se2/\Below M w1 w'):
  Calls Tryz.prog 26 #[.pointer (some ⟨M,0,none⟩),.agg #[V 5,V a,V b,V c,V n]] w fun e w'=>e=.returned (.tuple #[])/\Run w' M rv cv { x with r:=setR x.r a (x.wd k.toNat)} se2/\Below M w w':=by
 have hM:=h.lt;have hn:¬M=w.heap.size:=by omega
 have hn':¬w.heap.size=M:=by omega
 have hwr:=J17;have H:Hid (Run w M rv cv x se):=h;have Ha:Hid (a.toNat < 10):=(by omega:a.toNat < 10);have HR:Hid (∀w1,More w w1->Calls Tryz.prog 60 #[.pointer (some ⟨M,0,none⟩),.agg #[V 5,V a,V b,V c,V n],V 0] w1 fun e w'=>e=.returned (.tuple #[V k,.bool true])/\Run w' M rv cv x se2/\Below M w1 w'):=hR;have Hk:Hid (k.toNat < 384):=(by omega:k.toNat < 384);obtain⟨y,hy⟩:∃y,x.wd k.toNat=y:=⟨_,rfl⟩;rw[hy];have Hy:Hid (x.wd k.toNat=y):=hy;clear h hR hy;go_enter Tryz.func26,Tryz.ntmps26;go_wp2
 go_region
 go_wp2_with (fail)
 refine(HR.out _ ((More.refl _).alloc _ _).drew).mono ?_;rintro e w2 ⟨rfl,r2,b2⟩;have H2:Hid (Run w2 M rv cv x se2/\Below M w w2):=⟨r2,Below.trans (J0a (J07 (Below.refl _ _) (Nat.le_of_lt H.out.lt) _)) b2⟩;obtain⟨ya,fa⟩:=r2.r a.toNat Ha.out;have yk:=(r2.wd k.toNat Hk.out).1;rw[Hy.out]at yk;clear r2 b2;go_wp2;go_end0;exact⟨rfl,(H2.out.1.setR a.toNat Ha.out y),J0f H2.out.2 _ _⟩

theorem Jgg(a b c n k:Int)(w:World)(M:Nat)(rv cv:Value)(x:Ms)(se:List Se)(h:Run w M rv cv x se)(a0:0<=a)(a1:a < 10)(se2:List Se)(k0:0<=k)(k1:k < 384)(hR:∀w1,More w w1->Calls Tryz.prog 60 #[.pointer (some ⟨M,0,none⟩),.agg #[V 4,V a,V b,V c,V n],V 1] w1 fun e w'=>e=.returned (.tuple #[V k,.bool true])/\Run w' M rv cv x se2/\Below M w1 w'):
  Calls Tryz.prog 26 #[.pointer (some ⟨M,0,none⟩),.agg #[V 4,V a,V b,V c,V n]] w fun e w'=>e=.returned (.tuple #[])/\Run w' M rv cv { x with wd:=setN x.wd k.toNat (x.r a.toNat)} se2/\Below M w w':=by
 have hM:=h.lt;have hn:¬M=w.heap.size:=by omega
 have hn':¬w.heap.size=M:=by omega
 have hwr:=J17;have H:Hid (Run w M rv cv x se):=h;have Ha:Hid (a.toNat < 10):=(by omega:a.toNat < 10);have HR:Hid (∀w1,More w w1->Calls Tryz.prog 60 #[.pointer (some ⟨M,0,none⟩),.agg #[V 4,V a,V b,V c,V n],V 1] w1 fun e w'=>e=.returned (.tuple #[V k,.bool true])/\Run w' M rv cv x se2/\Below M w1 w'):=hR;have Hk:Hid (k.toNat < 384):=(by omega:k.toNat < 384);obtain⟨y,hy⟩:∃y,x.r a.toNat=y:=⟨_,rfl⟩;rw[hy];have Hy:Hid (x.r a.toNat=y):=hy;clear h hR hy;go_enter Tryz.func26,Tryz.ntmps26;go_wp2
 go_region
 go_wp2_with (fail)
 refine(HR.out _ ((More.refl _).alloc _ _).drew).mono ?_;rintro e w2 ⟨rfl,r2,b2⟩;have H2:Hid (Run w2 M rv cv x se2/\Below M w w2):=⟨r2,Below.trans (J0a (J07 (Below.refl _ _) (Nat.le_of_lt H.out.lt) _)) b2⟩;have ya:=(r2.r a.toNat Ha.out).1;obtain⟨yk,fk⟩:=r2.wd k.toNat Hk.out;rw[Hy.out]at ya;clear r2 b2;go_wp2_with (fail)
 go_region
 go_wp2;go_end0;exact⟨rfl,(H2.out.1.setWd k.toNat Hk.out y).drew,J0a (J0f H2.out.2 _ _)⟩

theorem Jgi(a b c n k:Int)(w:World)(M:Nat)(rv cv:Value)(x:Ms)(se:List Se)(h:Run w M rv cv x se)(a0:0<=a)(a1:a < 10)(se2:List Se)(k0:0<=k)(k1:k < 384)(hR:∀w1,More w w1->Calls Tryz.prog 60 #[.pointer (some ⟨M,0,none⟩),.agg #[V 6,V a,V b,V c,V n],V 1] w1 fun e w'=>e=.returned (.tuple #[V k,.bool true])/\Run w' M rv cv x se2/\Below M w1 w'):
  Calls Tryz.prog 26 #[.pointer (some ⟨M,0,none⟩),.agg #[V 6,V a,V b,V c,V n]] w fun e w'=>e=.returned (.tuple #[])/\Run w' M rv cv { x with wd:=setN x.wd k.toNat (x.r a.toNat)} se2/\Below M w w':=by
 have hM:=h.lt;have hn:¬M=w.heap.size:=by omega
 have hn':¬w.heap.size=M:=by omega
 have hwr:=J17;have H:Hid (Run w M rv cv x se):=h;have Ha:Hid (a.toNat < 10):=(by omega:a.toNat < 10);have HR:Hid (∀w1,More w w1->Calls Tryz.prog 60 #[.pointer (some ⟨M,0,none⟩),.agg #[V 6,V a,V b,V c,V n],V 1] w1 fun e w'=>e=.returned (.tuple #[V k,.bool true])/\Run w' M rv cv x se2/\Below M w1 w'):=hR;have Hk:Hid (k.toNat < 384):=(by omega:k.toNat < 384);obtain⟨y,hy⟩:∃y,x.r a.toNat=y:=⟨_,rfl⟩;rw[hy];have Hy:Hid (x.r a.toNat=y):=hy;clear h hR hy;go_enter Tryz.func26,Tryz.ntmps26;go_wp2
 go_region
 go_wp2_with (fail)
 refine(HR.out _ ((More.refl _).alloc _ _).drew).mono ?_;rintro e w2 ⟨rfl,r2,b2⟩;have H2:Hid (Run w2 M rv cv x se2/\Below M w w2):=⟨r2,Below.trans (J0a (J07 (Below.refl _ _) (Nat.le_of_lt H.out.lt) _)) b2⟩;have ya:=(r2.r a.toNat Ha.out).1;obtain⟨yk,fk⟩:=r2.wd k.toNat Hk.out;rw[Hy.out]at ya;clear r2 b2;go_wp2_with (fail)
 go_region
 go_wp2;go_end0;exact⟨rfl,(H2.out.1.setWd k.toNat Hk.out y).drew,J0a (J0f H2.out.2 _ _)⟩

theorem Jke(a b c n:Int)(w:World)(M:Nat)(rv cv:Value)(x:Ms)(se:List Se)(h:Run w M rv cv x se)(a0:0<=a)(a1:a < 10)(x2:Ms)(hR:∀w1,More w w1->Calls Tryz.prog 60 #[.pointer (some ⟨M,0,none⟩),.agg #[V 3,V a,V b,V c,V n],V 0] w1 fun e w'=>e=.returned (.tuple #[V 0,.bool false])/\Run w' M rv cv x2 se/\Below M w1 w'):
  Calls Tryz.prog 26 #[.pointer (some ⟨M,0,none⟩),.agg #[V 3,V a,V b,V c,V n]] w fun e w'=>e=.returned (.tuple #[])/\Run w' M rv cv x2 se/\Below M w w':=by
 have hM:=h.lt;have hn:¬M=w.heap.size:=by omega
 have hn':¬w.heap.size=M:=by omega
 have hwr:=J17;have H:Hid (Run w M rv cv x se):=h;have Ha:Hid (a.toNat < 10):=(by omega:a.toNat < 10);have HR:Hid (∀w1,More w w1->Calls Tryz.prog 60 #[.pointer (some ⟨M,0,none⟩),.agg #[V 3,V a,V b,V c,V n],V 0] w1 fun e w'=>e=.returned (.tuple #[V 0,.bool false])/\Run w' M rv cv x2 se/\Below M w1 w'):=hR;clear h hR;go_enter Tryz.func26,Tryz.ntmps26;go_wp2
 go_region
 go_wp2_with (fail)
 refine(HR.out _ ((More.refl _).alloc _ _).drew).mono ?_;rintro e w2 ⟨rfl,r2,b2⟩;have H2:Hid (Run w2 M rv cv x2 se/\Below M w w2):=⟨r2,Below.trans (J0a (J07 (Below.refl _ _) (Nat.le_of_lt H.out.lt) _)) b2⟩;clear r2 b2;go_wp2;go_end0;exact⟨rfl,H2.out.1,H2.out.2⟩

theorem Jkg(a b c n:Int)(w:World)(M:Nat)(rv cv:Value)(x:Ms)(se:List Se)(h:Run w M rv cv x se)(a0:0<=a)(a1:a < 10)(x2:Ms)(hR:∀w1,More w w1->Calls Tryz.prog 60 #[.pointer (some ⟨M,0,none⟩),.agg #[V 5,V a,V b,V c,V n],V 0] w1 fun e w'=>e=.returned (.tuple #[V 0,.bool false])/\Run w' M rv cv x2 se/\Below M w1 w'):
  Calls Tryz.prog 26 #[.pointer (some ⟨M,0,none⟩),.agg #[V 5,V a,V b,V c,V n]] w fun e w'=>e=.returned (.tuple #[])/\Run w' M rv cv x2 se/\Below M w w':=by
 have hM:=h.lt;have hn:¬M=w.heap.size:=by omega
 have hn':¬w.heap.size=M:=by omega
 have hwr:=J17;have H:Hid (Run w M rv cv x se):=h;have Ha:Hid (a.toNat < 10):=(by omega:a.toNat < 10);have HR:Hid (∀w1,More w w1->Calls Tryz.prog 60 #[.pointer (some ⟨M,0,none⟩),.agg #[V 5,V a,V b,V c,V n],V 0] w1 fun e w'=>e=.returned (.tuple #[V 0,.bool false])/\Run w' M rv cv x2 se/\Below M w1 w'):=hR;clear h hR;go_enter Tryz.func26,Tryz.ntmps26;go_wp2
 go_region
 go_wp2_with (fail)
 refine(HR.out _ ((More.refl _).alloc _ _).drew).mono ?_;rintro e w2 ⟨rfl,r2,b2⟩;have H2:Hid (Run w2 M rv cv x2 se/\Below M w w2):=⟨r2,Below.trans (J0a (J07 (Below.refl _ _) (Nat.le_of_lt H.out.lt) _)) b2⟩;clear r2 b2;go_wp2;go_end0;exact⟨rfl,H2.out.1,H2.out.2⟩

theorem Jkf(a b c n:Int)(w:World)(M:Nat)(rv cv:Value)(x:Ms)(se:List Se)(h:Run w M rv cv x se)(a0:0<=a)(a1:a < 10)(x2:Ms)(hR:∀w1,More w w1->Calls Tryz.prog 60 #[.pointer (some ⟨M,0,none⟩),.agg #[V 4,V a,V b,V c,V n],V 1] w1 fun e w'=>e=.returned (.tuple #[V 0,.bool false])/\Run w' M rv cv x2 se/\Below M w1 w'):
  Calls Tryz.prog 26 #[.pointer (some ⟨M,0,none⟩),.agg #[V 4,V a,V b,V c,V n]] w fun e w'=>e=.returned (.tuple #[])/\Run w' M rv cv x2 se/\Below M w w':=by
 have hM:=h.lt;have hn:¬M=w.heap.size:=by omega
 have hn':¬w.heap.size=M:=by omega
 have hwr:=J17;have H:Hid (Run w M rv cv x se):=h;have Ha:Hid (a.toNat < 10):=(by omega:a.toNat < 10);have HR:Hid (∀w1,More w w1->Calls Tryz.prog 60 #[.pointer (some ⟨M,0,none⟩),.agg #[V 4,V a,V b,V c,V n],V 1] w1 fun e w'=>e=.returned (.tuple #[V 0,.bool false])/\Run w' M rv cv x2 se/\Below M w1 w'):=hR;clear h hR;go_enter Tryz.func26,Tryz.ntmps26;go_wp2
 go_region
 go_wp2_with (fail)
 refine(HR.out _ ((More.refl _).alloc _ _).drew).mono ?_;rintro e w2 ⟨rfl,r2,b2⟩;have H2:Hid (Run w2 M rv cv x2 se/\Below M w w2):=⟨r2,Below.trans (J0a (J07 (Below.refl _ _) (Nat.le_of_lt H.out.lt) _)) b2⟩;clear r2 b2;go_wp2;go_end0;exact⟨rfl,H2.out.1,H2.out.2⟩

theorem Jkh(a b c n:Int)(w:World)(M:Nat)(rv cv:Value)(x:Ms)(se:List Se)(h:Run w M rv cv x se)(a0:0<=a)(a1:a < 10)(x2:Ms)(hR:∀w1,More w w1->Calls Tryz.prog 60 #[.pointer (some ⟨M,0,none⟩),.agg #[V 6,V a,V b,V c,V n],V 1] w1 fun e w'=>e=.returned (.tuple #[V 0,.bool false])/\Run w' M rv cv x2 se/\Below M w1 w'):
  Calls Tryz.prog 26 #[.pointer (some ⟨M,0,none⟩),.agg #[V 6,V a,V b,V c,V n]] w fun e w'=>e=.returned (.tuple #[])/\Run w' M rv cv x2 se/\Below M w w':=by
 have hM:=h.lt;have hn:¬M=w.heap.size:=by omega
 have hn':¬w.heap.size=M:=by omega
 have hwr:=J17;have H:Hid (Run w M rv cv x se):=h;have Ha:Hid (a.toNat < 10):=(by omega:a.toNat < 10);have HR:Hid (∀w1,More w w1->Calls Tryz.prog 60 #[.pointer (some ⟨M,0,none⟩),.agg #[V 6,V a,V b,V c,V n],V 1] w1 fun e w'=>e=.returned (.tuple #[V 0,.bool false])/\Run w' M rv cv x2 se/\Below M w1 w'):=hR;clear h hR;go_enter Tryz.func26,Tryz.ntmps26;go_wp2
 go_region
 go_wp2_with (fail)
 refine(HR.out _ ((More.refl _).alloc _ _).drew).mono ?_;rintro e w2 ⟨rfl,r2,b2⟩;have H2:Hid (Run w2 M rv cv x2 se/\Below M w w2):=⟨r2,Below.trans (J0a (J07 (Below.refl _ _) (Nat.le_of_lt H.out.lt) _)) b2⟩;clear r2 b2;go_wp2;go_end0;exact⟨rfl,H2.out.1,H2.out.2⟩

theorem do_op(op a b c n:Int)(w:World)(M:Nat)(rv cv:Value)(x:Ms)(se:List Se)(h:Run w M rv cv x se)(a0:0<=a)(a1:a < 10)(x2:Ms)(se2:List Se)(o0:21<=op)(hR:∀w1,More w w1->Calls Tryz.prog 62 #[.pointer (some ⟨M,0,none⟩),.agg #[V op,V a,V b,V c,V n]] w1 fun e w'=>e=.returned (.tuple #[])/\Run w' M rv cv x2 se2/\Below M w1 w'):
  Calls Tryz.prog 26 #[.pointer (some ⟨M,0,none⟩),.agg #[V op,V a,V b,V c,V n]] w fun e w'=>e=.returned (.tuple #[])/\Run w' M rv cv x2 se2/\Below M w w':=by
 have hM:=h.lt;have hn:¬M=w.heap.size:=by omega
 have hn':¬w.heap.size=M:=by omega
 have hwr:=J17;have H:Hid (Run w M rv cv x se):=h;have Ha:Hid (a.toNat < 10):=(by omega:a.toNat < 10);have HR:Hid (∀w1,More w w1->Calls Tryz.prog 62 #[.pointer (some ⟨M,0,none⟩),.agg #[V op,V a,V b,V c,V n]] w1 fun e w'=>e=.returned (.tuple #[])/\Run w' M rv cv x2 se2/\Below M w1 w'):=hR;clear h hR;have n1:¬op=1:=by omega
 have n2:¬op=2:=by omega
 have n3:¬op=3:=by omega
 have n4:¬op=4:=by omega
 have n5:¬op=5:=by omega
 have n6:¬op=6:=by omega
 have n7:¬op=7:=by omega
 have n8:¬op=8:=by omega
 have n9:¬op=9:=by omega
 have n10:¬op=10:=by omega
 have n11:¬op=11:=by omega
 have n12:¬op=12:=by omega
 go_enter Tryz.func26,Tryz.ntmps26;go_wp2
 go_region
 go_wp2_with (fail)
 refine(HR.out _ ((More.refl _).alloc _ _).drew).mono ?_;rintro e w2 ⟨rfl,r2,b2⟩;have H2:Hid (Run w2 M rv cv x2 se2/\Below M w w2):=⟨r2,Below.trans (J0a (J07 (Below.refl _ _) (Nat.le_of_lt H.out.lt) _)) b2⟩;clear r2 b2;go_wp2;go_end0;exact⟨rfl,H2.out.1,H2.out.2⟩
def numI(x:Ms)(i:Ins):Int:=wrap64 (idxI x.r i+x.st i.c.toNat)

theorem J9l(i:Ins)(w:World)(M:Nat)(rv cv:Value)(x:Ms)(se:List Se)(h:Run w M rv cv x se)(hop:i.op=3\/i.op=4\/i.op=5\/i.op=6)(b0:0<=i.b)(b1:i.b < 10)(c0:0<=i.c)(c1:i.c < 6)
  (s0:0<=x.st i.c.toNat) (s1:x.st i.c.toNat<=x.st (i.c.toNat+1)) (s2:x.st (i.c.toNat+1)<=384):
  Calls Tryz.prog 95 #[.pointer (some ⟨M,0,none⟩),.agg #[V i.op,V i.a,V i.b,V i.c,V i.n]] w fun e w'=>
   e=.returned (.tuple #[V (numI x i),.bool (decide (0<=idxI x.r i/\idxI x.r i < x.st (i.c.toNat+1) - x.st i.c.toNat))])/\More w w':=by
 have ws:wrap64 (x.st (i.c.toNat+1) - x.st i.c.toNat)=x.st (i.c.toNat+1) - x.st i.c.toNat:=by unfold wrap64;omega
 have hs:=(h.st i.c.toNat (by omega)).1;have ht:=(h.st (i.c.toNat+1) (by omega)).1;rw[show i.c.toNat+1=(i.c+1).toNat by omega]at ht
 have fin:∀(e:Ending) (w':World),(e=.returned (.tuple #[V (wrap64 (idxI x.r i+x.st i.c.toNat)),.bool (decide (0<=idxI x.r i)&&decide (idxI x.r i < wrap64 (x.st (i.c.toNat+1) - x.st i.c.toNat)))])/\More w w')->
   e=.returned (.tuple #[V (numI x i),.bool (decide (0<=idxI x.r i/\idxI x.r i < x.st (i.c.toNat+1) - x.st i.c.toNat))])/\More w w':=by
  rintro e w' ⟨rfl,m⟩;rw[ws];exact⟨by rw[Bool.decide_and];rfl,m⟩
 by_cases h34:i.op=3\/i.op=4
 ·have hx:=(h.r i.b.toNat (by omega)).1
  have e:idxI x.r i=wrap64 (i.n+x.r i.b.toNat):=by unfold idxI;rw[if_neg (by omega),Int.add_comm]
  rw[show(i.c.toNat+1)=(i.c+1).toNat by omega]at fin |-;exact(J7q i.op i.a i.b i.c i.n _ _ _ _ w M h34 b0 b1 c0 c1 e.symm hs ht hx h.lt).mono fin
 ·have e:idxI x.r i=i.n:=by unfold idxI;rw[if_pos (by omega)]
  rw[show(i.c.toNat+1)=(i.c+1).toNat by omega]at fin |-;rw[e]at fin |-;exact(J7p i.op i.a i.b i.c i.n _ _ w M (by omega) c0 c1 hs ht h.lt).mono fin

theorem J2h(op a b c n k how:Int)(t:Bool)(w:World)(M:Nat)(rv cv:Value)(x:Ms)(q:Tl)(se:List Se)(h:RunS w M rv cv x q se)(hl:se.length<=200000)(hok:t=true\/q.ahead=true)
  (hN:∀w1,More w w1->Calls Tryz.prog 95 #[.pointer (some ⟨M,0,none⟩),.agg #[V op,V a,V b,V c,V n]] w1 fun e w'=>e=.returned (.tuple #[V k,.bool t])/\More w1 w'):
  Calls Tryz.prog 101 #[.pointer (some ⟨M,0,none⟩),.agg #[V op,V a,V b,V c,V n],V how] w fun e w'=>
   e=.returned (.tuple #[V k,.bool true])/\RunS w' M rv cv x q (se++[⟨2,k,how⟩])/\Below M w w':=by
 have HN:=J01 hN;have H:Hid (RunS w M rv cv x q se/\se.length<=200000):=⟨h,hl⟩;obtain⟨S,HS⟩:∃S:World->Prop,Hid (∀w',S w'↔More (w.alloc (.cells #[V op,V a,V b,V c,V n] 41)) w'):=⟨_,fun _=>Iff.rfl⟩;have k0:∀i:{ w' // S w' },i.val.cell? ⟨w.heap.size,0,none⟩=some (V op):=fun i=>((HS.out _).1 i.property).cell (by go_simp)
 have k1:∀i:{ w' // S w' },i.val.cell? ⟨w.heap.size,1,none⟩=some (V a):=fun i=>((HS.out _).1 i.property).cell (by go_simp)
 have k2:∀i:{ w' // S w' },i.val.cell? ⟨w.heap.size,2,none⟩=some (V b):=fun i=>((HS.out _).1 i.property).cell (by go_simp)
 have k3:∀i:{ w' // S w' },i.val.cell? ⟨w.heap.size,3,none⟩=some (V c):=fun i=>((HS.out _).1 i.property).cell (by go_simp)
 have k4:∀i:{ w' // S w' },i.val.cell? ⟨w.heap.size,4,none⟩=some (V n):=fun i=>((HS.out _).1 i.property).cell (by go_simp)
 have hne:Nonempty { w' // S w' }:=⟨⟨_,(HS.out _).2 (More.refl _)⟩⟩;have ca:=h.ahead.1;have Hok:Hid (t=true\/q.ahead=true):=hok;clear h hl hN hok;go_enter Tryz.func101,Tryz.ntmps101;go_wp2_with (fail)
 refine J04 (S:=S) [(0,true),(1,true),(2,true),(3,true),(4,false),(5,true),(6,true),(7,true),(8,true),(9,true)] (by kernel_rfl) (by kernel_rfl) (by kernel_rfl) ((HS.out _).2 (More.refl _).drew) ?_
 iterate 4 (refine J00 rfl (by kernel_rfl) (fun K hK=>?_);go_simp;refine hK _ _ ?_;clear hK K)
 refine J03 rfl (by kernel_rfl) (fun K hK=>?_);go_simp;refine(HN.out _ ((More.refl _).alloc _ _).drew).mono ?_;rintro e w5 ⟨rfl,m5⟩;have Hm5:Hid (More (w.alloc (.cells #[V op,V a,V b,V c,V n] 41)) w5):=(More.refl _).drew.trans m5;have Hm:Hid (More w w5):=((More.refl _).alloc _ _).trans Hm5.out;have ca5:=Hm.out.cell ca;clear m5
 go_simp
 refine hK _ _ ((HS.out _).2 Hm5.out) ?_;clear hK K
 iterate 5 (refine J00 rfl (by kernel_rfl) (fun K hK=>?_);go_simp;refine hK _ _ ?_;clear hK K)
 refine J06 ?_;clear k0 k1 k2 k3 k4 hne ca;cases t with
 | true=>
  go_wp2_with (fail)
  refine(J46 _ M rv cv _ se 2 k how H.out.2 (H.out.1.more Hm.out).run).mono ?_;rintro e w2 ⟨rfl,r2,b2,_⟩;have H2:Hid (RunS w2 M rv cv x q (se++[⟨2,k,how⟩])/\Below M w w2):=⟨⟨r2⟩,Below.trans (Below.mono Hm.out (Nat.le_of_lt H.out.1.lt)) b2⟩;clear r2 b2;go_wp2;go_ret2;exact⟨rfl,H2.out.1,H2.out.2⟩
 | false=>
  have ha:q.ahead=true:=by rcases Hok.out with h | h;cases h;exact h
  rw[ha]at ca5;clear ha;go_wp2_with (fail)
  refine(J46 _ M rv cv _ se 2 k how H.out.2 (H.out.1.more Hm.out).run).mono ?_;rintro e w2 ⟨rfl,r2,b2,_⟩;have H2:Hid (RunS w2 M rv cv x q (se++[⟨2,k,how⟩])/\Below M w w2):=⟨⟨r2⟩,Below.trans (Below.mono Hm.out (Nat.le_of_lt H.out.1.lt)) b2⟩;clear r2 b2;go_wp2;go_ret2;exact⟨rfl,H2.out.1,H2.out.2⟩

theorem J6m(op a b c n k how:Int)(w:World)(M:Nat)(rv cv:Value)(x:Ms)(q:Tl)(se:List Se)(h:RunS w M rv cv x q se)(ha:q.ahead=false)
  (hN:∀w1,More w w1->Calls Tryz.prog 95 #[.pointer (some ⟨M,0,none⟩),.agg #[V op,V a,V b,V c,V n]] w1 fun e w'=>e=.returned (.tuple #[V k,.bool false])/\More w1 w'):
  Calls Tryz.prog 101 #[.pointer (some ⟨M,0,none⟩),.agg #[V op,V a,V b,V c,V n],V how] w fun e w'=>
   e=.returned (.tuple #[V 0,.bool false])/\RunS w' M rv cv { x with fin:=2,ended:=true } q se/\Below M w w':=by
 have HN:=J01 hN;have H:Hid (RunS w M rv cv x q se):=h;obtain⟨S,HS⟩:∃S:World->Prop,Hid (∀w',S w'↔More (w.alloc (.cells #[V op,V a,V b,V c,V n] 41)) w'):=⟨_,fun _=>Iff.rfl⟩;have k0:∀i:{ w' // S w' },i.val.cell? ⟨w.heap.size,0,none⟩=some (V op):=fun i=>((HS.out _).1 i.property).cell (by go_simp)
 have k1:∀i:{ w' // S w' },i.val.cell? ⟨w.heap.size,1,none⟩=some (V a):=fun i=>((HS.out _).1 i.property).cell (by go_simp)
 have k2:∀i:{ w' // S w' },i.val.cell? ⟨w.heap.size,2,none⟩=some (V b):=fun i=>((HS.out _).1 i.property).cell (by go_simp)
 have k3:∀i:{ w' // S w' },i.val.cell? ⟨w.heap.size,3,none⟩=some (V c):=fun i=>((HS.out _).1 i.property).cell (by go_simp)
 have k4:∀i:{ w' // S w' },i.val.cell? ⟨w.heap.size,4,none⟩=some (V n):=fun i=>((HS.out _).1 i.property).cell (by go_simp)
 have hne:Nonempty { w' // S w' }:=⟨⟨_,(HS.out _).2 (More.refl _)⟩⟩;have ca:=h.ahead.1;rw[ha]at ca;clear h hN ha;go_enter Tryz.func101,Tryz.ntmps101;go_wp2_with (fail)
 refine J04 (S:=S) [(0,true),(1,true),(2,true),(3,true),(4,false),(5,true),(6,true),(7,true),(8,true),(9,true)] (by kernel_rfl) (by kernel_rfl) (by kernel_rfl) ((HS.out _).2 (More.refl _).drew) ?_
 iterate 4 (refine J00 rfl (by kernel_rfl) (fun K hK=>?_);go_simp;refine hK _ _ ?_;clear hK K)
 refine J03 rfl (by kernel_rfl) (fun K hK=>?_);go_simp;refine(HN.out _ ((More.refl _).alloc _ _).drew).mono ?_;rintro e w5 ⟨rfl,m5⟩;have Hm5:Hid (More (w.alloc (.cells #[V op,V a,V b,V c,V n] 41)) w5):=(More.refl _).drew.trans m5;have Hm:Hid (More w w5):=((More.refl _).alloc _ _).trans Hm5.out;have ca5:=Hm.out.cell ca;clear m5
 go_simp
 refine hK _ _ ((HS.out _).2 Hm5.out) ?_;clear hK K
 iterate 5 (refine J00 rfl (by kernel_rfl) (fun K hK=>?_);go_simp;refine hK _ _ ?_;clear hK K)
 refine J06 ?_;clear k0 k1 k2 k3 k4 hne ca;go_wp2_with (fail)
 refine(J3w _ M rv cv _ se 2 (H.out.more Hm.out).run).mono ?_;rintro e w2 ⟨rfl,r2,b2⟩;have H2:Hid (RunS w2 M rv cv { x with fin:=2,ended:=true } q se/\Below M w w2):=⟨⟨r2⟩,Below.trans (Below.mono Hm.out (Nat.le_of_lt H.out.lt)) b2⟩;clear r2 b2;go_wp2;go_ret2;exact⟨rfl,H2.out.1,H2.out.2⟩

theorem J1e(op a b c n:Int)(w:World)(M:Nat)(rv cv:Value)(x:Ms)(q:Tl)(se:List Se)(h:RunS w M rv cv x q se):
  Calls Tryz.prog 72 #[.pointer (some ⟨M,0,none⟩),.agg #[V op,V a,V b,V c,V n]] w fun e w'=>e=.returned (.bool (decide (op=12\/op=9\/x.steps=q.til)))/\More w w':=by
 have hM:=h.lt;have hn:¬M=w.heap.size:=by omega
 have hn':¬w.heap.size=M:=by omega
 have cs:=h.run.steps.1;have ct:=h.til.1;dsimp only at cs;obtain⟨s,hs⟩:∃s,x.steps=s:=⟨_,rfl⟩;obtain⟨t,ht⟩:∃t,q.til=t:=⟨_,rfl⟩;rw[hs]at cs |-;rw[ht]at ct |-;clear h hs ht;by_cases h12:op=12
 ·subst h12
  go_enter Tryz.func72,Tryz.ntmps72;go_wp2
  go_region
  go_wp2;go_ret;exact⟨by simp,((More.refl _).alloc _ _).drew⟩
 have h12':(op==12)=false:=by simp[h12]
 by_cases h9:op=9
 ·subst h9
  go_enter Tryz.func72,Tryz.ntmps72;go_wp2
  go_region
  go_wp2;go_ret;exact⟨by simp,((More.refl _).alloc _ _).drew⟩
 have h9':(op==9)=false:=by simp[h9]
 go_enter Tryz.func72,Tryz.ntmps72;go_wp2
 go_region
 go_wp2;go_ret;exact⟨by simp[h12,h9];by_cases e:s=t<;>simp[e],((More.refl _).alloc _ _).drew⟩

theorem J90(op a b c n:Int)(w:World)(M:Nat)(rv cv:Value)(x:Ms)(q:Tl)(se:List Se)(h:RunS w M rv cv x q se)(ha:q.ahead=true):
  Calls Tryz.prog 71 #[.pointer (some ⟨M,0,none⟩),.agg #[V op,V a,V b,V c,V n]] w fun e w'=>e=.returned (.tuple #[])/\More w w':=by
 have hM:=h.lt;have ca:=h.ahead.1;rw[ha]at ca;clear h ha;go_enter Tryz.func71,Tryz.ntmps71;go_wp2;go_end0;exact⟨rfl,(More.refl _).alloc _ _⟩

theorem Jjm(op a b c n:Int)(w:World)(M:Nat)(rv cv:Value)(x x2:Ms)(q q2:Tl)(se se2:List Se)(h:RunS w M rv cv x q se)(ha:q.ahead=false)
  (hD:∀w1,More w w1->Calls Tryz.prog 26 #[.pointer (some ⟨M,0,none⟩),.agg #[V op,V a,V b,V c,V n]] w1 fun e w'=>e=.returned (.tuple #[])/\RunS w' M rv cv x2 q2 se2/\Below M w1 w'):
  Calls Tryz.prog 71 #[.pointer (some ⟨M,0,none⟩),.agg #[V op,V a,V b,V c,V n]] w fun e w'=>e=.returned (.tuple #[])/\RunS w' M rv cv x2 q2 se2/\Below M w w':=by
 have hM:=h.lt;have ca:=h.ahead.1;rw[ha]at ca;have HD:=J01 hD;clear h ha hD;go_enter Tryz.func71,Tryz.ntmps71;go_wp2_with (fail)
 go_region_with (go_at_call 26;refine(HD.out _ ?_).mono ?_;exact((More.refl _).alloc _ _).drew;rintro e w2 ⟨rfl,r2,b2⟩;have H2:=J01 (And.intro r2 b2);clear r2 b2)
 go_wp2;go_end0;exact⟨rfl,H2.out.1,Below.trans (J0a (J07 (Below.refl _ _) (Nat.le_of_lt hM) _)) H2.out.2⟩
def Tl.left(q:Tl)(x:Ms):Tl:=if q.ahead=true then q else { q with ahead:=true,br:=x.r,bw:=x.wd,bn:=x.next,bp:=q.puts,til:=x.steps+12 }

theorem J72(w:World)(M:Nat)(rv cv:Value)(x:Ms)(q:Tl)(se:List Se)(h:RunS w M rv cv x q se)(s0:0<=x.steps)(s1:x.steps<=100000):
  Calls Tryz.prog 100 #[.pointer (some ⟨M,0,none⟩)] w fun e w'=>e=.returned (.tuple #[])/\RunS w' M rv cv x (q.left x) se/\Below M w w':=by
 unfold Tl.left;by_cases ha:q.ahead=true
 ·rw[if_pos ha]
  refine(J5c w M rv cv x q se h ha).mono ?_;rintro e w' ⟨rfl,rfl⟩;exact⟨rfl,h,Below.refl _ _⟩
 ·rw[if_neg ha]
  exact Jd7 w M rv cv x q se h (by simpa using ha) s0 s1

theorem MapAt.below{w w':World}{b M:Nat}{f:Int->Int->Int}(h:MapAt w b f)(hb:Below M w w')(hlt:b < M):MapAt w' b f:=h.block (Below.block hb b hlt)
def J7c(op a b c n k:Int)(t:Bool)(M:Nat)(rv cv:Value)(x:Ms)(q:Tl)(se:List Se):Prop:=
 ∀w1 mo,RunS w1 M rv cv { x with mo:=mo } q se->Calls Tryz.prog 95 #[.pointer (some ⟨M,0,none⟩),.agg #[V op,V a,V b,V c,V n]] w1 fun e w'=>e=.returned (.tuple #[V k,.bool t])/\More w1 w'

theorem Jda(op a b c n k:Int)(w:World)(M:Nat)(rv cv:Value)(x:Ms)(q:Tl)(se:List Se)(h:RunS w M rv cv x q se)(ha:q.ahead=false)(hN:J7c op a b c n k false M rv cv x q se):
  Calls Tryz.prog 69 #[.pointer (some ⟨M,0,none⟩),.agg #[V op,V a,V b,V c,V n]] w fun e w'=>e=.returned (.tuple #[])/\RunS w' M rv cv { x with fin:=2,ended:=true } q se/\Below M w w':=by
 have hM:=h.lt;have HR:=J01 (J6m op a b c n k 0 _ M rv cv _ q se (h.beside (.cells #[V op,V a,V b,V c,V n] 41)) ha (fun w1 m1=>hN w1 _ ((h.beside _).more m1)));clear h ha hN;go_enter Tryz.func69,Tryz.ntmps69;go_wp2_with (fail)
 refine HR.out.mono ?_;rintro e w2 ⟨rfl,r2,b2⟩;have H2:=J01 (And.intro r2 b2);clear r2 b2 HR;go_wp2;refine bodyPost_ret (results_none (by kernel_rfl) _ _ _) rfl ?_;exact⟨rfl,H2.out.1.fewer x.mo (fun p hp=>List.mem_cons_of_mem _ hp),Below.trans (J07 (Below.refl _ _) (Nat.le_of_lt hM) _) H2.out.2⟩

theorem Jbo(op a b c n k:Int)(t:Bool)(w:World)(M:Nat)(ra:Option Addr)(rl rc:Nat)(cv:Value)(x:Ms)(q:Tl)(se:List Se)(h:RunS w M (.slice ra rl rc) cv x q se)(hl:se.length<=200000)(hok:t=true\/q.ahead=true)(hrl:rl<=6)(a0:0<=a)(a1:a < 10)
  (hk:¬(0<=k/\k < x.st rl)) (hN:J7c op a b c n k t M (.slice ra rl rc) cv x q se):
  Calls Tryz.prog 69 #[.pointer (some ⟨M,0,none⟩),.agg #[V op,V a,V b,V c,V n]] w fun e w'=>e=.returned (.tuple #[])/\RunS w' M (.slice ra rl rc) cv { x with r:=setR x.r a 0 } q (se++[⟨2,k,0⟩])/\Below M w w':=by
 have hM:=h.lt;have HR:=J01 (J2h op a b c n k 0 t _ M (.slice ra rl rc) cv _ q se (h.beside (.cells #[V op,V a,V b,V c,V n] 41)) hl hok (fun w1 m1=>hN w1 _ ((h.beside _).more m1)));have Hk:Hid (¬(0<=k/\k < x.st rl)/\rl<=6/\a.toNat < 10):=⟨hk,hrl,by omega⟩;clear h hok hN hl hk hrl;go_enter Tryz.func69,Tryz.ntmps69;go_wp2_with (fail)
 refine HR.out.mono ?_;rintro e w2 ⟨rfl,r2,b2⟩;have H2:=J01 (And.intro r2 b2);clear r2 b2 HR;have hW:=J2v w2 M ra rl rc cv _ _ k H2.out.1.run Hk.out.2.1;dsimp only at hW;rw[show(decide (0<=k)&&decide (k < x.st rl))=false by rw[<-Bool.decide_and];exact decide_eq_false Hk.out.1]at hW;have HW:=J01 hW;clear hW;go_wp2_with (fail)
 refine HW.out.mono ?_;rintro e w3 ⟨rfl,m3⟩;have H3:=J01 (And.intro (H2.out.1.more m3) m3);have q1:=J08 (H3.out.1.left (List.mem_cons_self)) 1 (V a) (by simp);obtain⟨ya,fa⟩:=H3.out.1.run.r a.toNat Hk.out.2.2;dsimp only at ya q1;clear m3 HW;have hn:¬M=w.heap.size:=by omega
 have hn':¬w.heap.size=M:=by omega
 go_wp2
 go_region
 go_wp2;refine bodyPost_ret (results_none (by kernel_rfl) _ _ _) rfl ?_;refine⟨rfl,⟨((H3.out.1.fewer x.mo (fun p hp=>List.mem_cons_of_mem _ hp)).run.setR a.toNat Hk.out.2.2 0).drew⟩,?_⟩;exact J0a (J0f (J11 (Below.trans (J07 (Below.refl _ _) (Nat.le_of_lt hM) _) H2.out.2) (Nat.le_of_lt H2.out.1.lt) H3.out.2) _ _)

theorem J93(op a b c n k:Int)(t:Bool)(w:World)(M B:Nat)(ra:Option Addr)(rl rc:Nat)(cv:Value)(x:Ms)(q:Tl)(se:List Se)(L:List Int)(f:Int->Int->Int)(h:RunS w M (.slice ra rl rc) cv x q se)(hl:se.length<=200000)(hok:t=true\/q.ahead=true)(hrl:rl<=6)(a0:0<=a)(a1:a < 10)
  (hk:0<=k/\k < x.st rl) (hst:x.st rl<=384) (hp:q.puts k.toNat<=100000) (hmb:q.mb < M) (hB:B<=M) (s0:0<=x.steps) (s1:x.steps<=100000) (hs:ScAt w B q.sc L) (hm:MapAt w q.mb f) (hc:L.headD 0=0\/q.puts k.toNat < L.headD 0) (hN:J7c op a b c n k t M (.slice ra rl rc) cv x q se):
  Calls Tryz.prog 69 #[.pointer (some ⟨M,0,none⟩),.agg #[V op,V a,V b,V c,V n]] w fun e w'=>e=.returned (.tuple #[])/\Below M w w'/\∃sc',ScAt w' B sc' L.tail/\RunS w' M (.slice ra rl rc) cv { x with r:=setR x.r a (x.wd k.toNat)} { q with sc:=sc' } (se++[⟨2,k,0⟩]):=by
 suffices H0:∀P:Ending->World->Prop,(∀e w',(e=.returned (.tuple #[])/\Below M w w'/\∃sc',ScAt w' B sc' L.tail/\RunS w' M (.slice ra rl rc) cv { x with r:=setR x.r a (x.wd k.toNat)} { q with sc:=sc' } (se++[⟨2,k,0⟩]))->P e w')->Calls Tryz.prog 69 #[.pointer (some ⟨M,0,none⟩),.agg #[V op,V a,V b,V c,V n]] w P from H0 _ (fun _ _ h=>h)
 intro P hP;have HP:=J01 hP;clear hP;obtain⟨d,hd⟩:∃d,L.headD 0=d:=⟨_,rfl⟩;rw[hd]at hc;have Hd:=J01 hd;clear hd;have hM:=h.lt;have HR:=J01 (J2h op a b c n k 0 t _ M (.slice ra rl rc) cv _ q se (h.beside (.cells #[V op,V a,V b,V c,V n] 41)) hl hok (fun w1 m1=>hN w1 _ ((h.beside _).more m1)));have Hk:Hid ((0<=k/\k < x.st rl)/\rl<=6/\a.toNat < 10/\k.toNat < 384/\q.puts k.toNat<=100000/\q.mb < M/\B<=M):=⟨hk,hrl,by omega,by omega,hp,hmb,hB⟩;have HS:=J01 (And.intro hs hm);have HC:=J01 hc;have Hst:Hid (0<=x.steps/\x.steps<=100000):=⟨s0,s1⟩;have k0:0<=k:=hk.1;have k1:k < 384:=by omega
 clear h hok hN hl hk hrl hs hm hc hp hmb hst hB s0 s1;go_enter Tryz.func69,Tryz.ntmps69;go_wp2_with (fail)
 refine HR.out.mono ?_;rintro e w2 ⟨rfl,r2,b2⟩;have H2:=J01 (And.intro r2 b2);clear r2 b2 HR;have hW:=J2v w2 M ra rl rc cv _ _ k H2.out.1.run Hk.out.2.1;dsimp only at hW;rw[show(decide (0<=k)&&decide (k < x.st rl))=true by rw[<-Bool.decide_and];exact decide_eq_true Hk.out.1]at hW;have HW:=J01 hW;clear hW;go_wp2_with (fail)
 refine HW.out.mono ?_;rintro e w3 ⟨rfl,m3⟩;have H3:=J01 (And.intro (H2.out.1.more m3) (J11 (Below.trans (J07 (Below.refl _ _) (Nat.le_of_lt hM) _) H2.out.2) (Nat.le_of_lt H2.out.1.lt) m3));have q1:=J08 (H3.out.1.left (List.mem_cons_self)) 1 (V a) (by simp);obtain⟨ya,fa⟩:=H3.out.1.run.r a.toNat Hk.out.2.2.1;have yk:=(H3.out.1.run.wd k.toNat Hk.out.2.2.2.1).1;dsimp only at ya q1 yk;clear m3 HW;have hn:¬M=w.heap.size:=by omega
 have hn':¬w.heap.size=M:=by omega
 go_wp2
 go_region
 obtain⟨w4,hw4⟩:∃w4,w4=(w3.setCell ⟨M,7+a.toNat,none⟩ (V (x.wd k.toNat))).drew:=⟨_,rfl⟩;have HW4:=J01 hw4;rw[<-hw4]
 have h4:RunS w4 M (.slice ra rl rc) cv { x with r:=setR x.r a (x.wd k.toNat),mo:=(w.heap.size,.cells #[V op,V a,V b,V c,V n] 41)::x.mo } q (se++[⟨2,k,0⟩])/\Below M w w4:=by
  rw[hw4];exact⟨⟨(H3.out.1.run.setR a.toNat Hk.out.2.2.1 (x.wd k.toNat)).drew⟩,J0a (J0f H3.out.2 _ _)⟩
 have H4:=J01 h4;clear q1 ya fa yk hw4 h4;have hCh:=(J48 w4 M B (.slice ra rl rc) cv _ q _ L H4.out.1 (HS.out.1.below (Below.mono H4.out.2 Hk.out.2.2.2.2.2.2)) Hk.out.2.2.2.2.2.2);rw[Hd.out]at hCh;have HCh:=J01 hCh;clear hCh;go_wp2_with (fail)
 refine HCh.out.mono ?_;rintro e w5 ⟨rfl,b5,sc',r5,s5⟩;have H5:=J01 (And.intro r5 (And.intro s5 (Below.trans H4.out.2 b5)));clear r5 s5 b5 HCh;have HWs:=J01 (Jey w5 M (.slice ra rl rc) cv _ _ _ k d H5.out.1 k0 k1 HC.out);go_wp2_with (fail)
 refine HWs.out.mono ?_;rintro e w6 ⟨rfl,rfl⟩;clear HWs;go_wp2;go_end0;exact HP.out _ _ ⟨rfl,H5.out.2.2,sc',H5.out.2.1,H5.out.1.fewer x.mo (fun p hp=>List.mem_cons_of_mem _ hp)⟩

theorem Jbp(op a b c n k:Int)(t:Bool)(w:World)(M B:Nat)(ra:Option Addr)(rl rc:Nat)(cv:Value)(x:Ms)(q:Tl)(se:List Se)(L:List Int)(f:Int->Int->Int)(h:RunS w M (.slice ra rl rc) cv x q se)(hl:se.length<=200000)(hok:t=true\/q.ahead=true)(hrl:rl<=6)(a0:0<=a)(a1:a < 10)
  (hk:0<=k/\k < x.st rl) (hst:x.st rl<=384) (hp:q.puts k.toNat<=100000) (hmb:q.mb < M) (hB:B<=M) (s0:0<=x.steps) (s1:x.steps<=100000) (hs:ScAt w B q.sc L) (hm:MapAt w q.mb f) (hc:0 < L.headD 0/\L.headD 0<=q.puts k.toNat) (hN:J7c op a b c n k t M (.slice ra rl rc) cv x q se):
  Calls Tryz.prog 69 #[.pointer (some ⟨M,0,none⟩),.agg #[V op,V a,V b,V c,V n]] w fun e w'=>e=.returned (.tuple #[])/\Below M w w'/\∃sc',ScAt w' B sc' L.tail/\RunS w' M (.slice ra rl rc) cv { x with r:=setR (setR x.r a (x.wd k.toNat)) a (f k (q.puts k.toNat - L.headD 0))} (Tl.left { q with sc:=sc' } { x with r:=setR x.r a (x.wd k.toNat)}) (se++[⟨2,k,0⟩]):=by
 suffices H0:∀P:Ending->World->Prop,(∀e w',(e=.returned (.tuple #[])/\Below M w w'/\∃sc',ScAt w' B sc' L.tail/\RunS w' M (.slice ra rl rc) cv { x with r:=setR (setR x.r a (x.wd k.toNat)) a (f k (q.puts k.toNat - L.headD 0))} (Tl.left { q with sc:=sc' } { x with r:=setR x.r a (x.wd k.toNat)}) (se++[⟨2,k,0⟩]))->P e w')->Calls Tryz.prog 69 #[.pointer (some ⟨M,0,none⟩),.agg #[V op,V a,V b,V c,V n]] w P from H0 _ (fun _ _ h=>h)
 intro P hP;have HP:=J01 hP;clear hP;obtain⟨d,hd⟩:∃d,L.headD 0=d:=⟨_,rfl⟩;rw[hd]at hc HP;have Hd:=J01 hd;clear hd;have hM:=h.lt;have HR:=J01 (J2h op a b c n k 0 t _ M (.slice ra rl rc) cv _ q se (h.beside (.cells #[V op,V a,V b,V c,V n] 41)) hl hok (fun w1 m1=>hN w1 _ ((h.beside _).more m1)));have Hk:Hid ((0<=k/\k < x.st rl)/\rl<=6/\a.toNat < 10/\k.toNat < 384/\q.puts k.toNat<=100000/\q.mb < M/\B<=M):=⟨hk,hrl,by omega,by omega,hp,hmb,hB⟩;have HS:=J01 (And.intro hs hm);have HC:=J01 hc;have Hst:Hid (0<=x.steps/\x.steps<=100000):=⟨s0,s1⟩;have k0:0<=k:=hk.1;have k1:k < 384:=by omega
 clear h hok hN hl hk hrl hs hm hc hp hmb hst hB s0 s1;go_enter Tryz.func69,Tryz.ntmps69;go_wp2_with (fail)
 refine HR.out.mono ?_;rintro e w2 ⟨rfl,r2,b2⟩;have H2:=J01 (And.intro r2 b2);clear r2 b2 HR;have hW:=J2v w2 M ra rl rc cv _ _ k H2.out.1.run Hk.out.2.1;dsimp only at hW;rw[show(decide (0<=k)&&decide (k < x.st rl))=true by rw[<-Bool.decide_and];exact decide_eq_true Hk.out.1]at hW;have HW:=J01 hW;clear hW;go_wp2_with (fail)
 refine HW.out.mono ?_;rintro e w3 ⟨rfl,m3⟩;have H3:=J01 (And.intro (H2.out.1.more m3) (J11 (Below.trans (J07 (Below.refl _ _) (Nat.le_of_lt hM) _) H2.out.2) (Nat.le_of_lt H2.out.1.lt) m3));have q1:=J08 (H3.out.1.left (List.mem_cons_self)) 1 (V a) (by simp);obtain⟨ya,fa⟩:=H3.out.1.run.r a.toNat Hk.out.2.2.1;have yk:=(H3.out.1.run.wd k.toNat Hk.out.2.2.2.1).1;dsimp only at ya q1 yk;clear m3 HW;have hn:¬M=w.heap.size:=by omega
 have hn':¬w.heap.size=M:=by omega
 go_wp2
 go_region
 obtain⟨w4,hw4⟩:∃w4,w4=(w3.setCell ⟨M,7+a.toNat,none⟩ (V (x.wd k.toNat))).drew:=⟨_,rfl⟩;have HW4:=J01 hw4;rw[<-hw4]
 have h4:RunS w4 M (.slice ra rl rc) cv { x with r:=setR x.r a (x.wd k.toNat),mo:=(w.heap.size,.cells #[V op,V a,V b,V c,V n] 41)::x.mo } q (se++[⟨2,k,0⟩])/\Below M w w4:=by
  rw[hw4];exact⟨⟨(H3.out.1.run.setR a.toNat Hk.out.2.2.1 (x.wd k.toNat)).drew⟩,J0a (J0f H3.out.2 _ _)⟩
 have H4:=J01 h4;clear q1 ya fa yk hw4 h4;have hCh:=(J48 w4 M B (.slice ra rl rc) cv _ q _ L H4.out.1 (HS.out.1.below (Below.mono H4.out.2 Hk.out.2.2.2.2.2.2)) Hk.out.2.2.2.2.2.2);rw[Hd.out]at hCh;have HCh:=J01 hCh;clear hCh;go_wp2_with (fail)
 refine HCh.out.mono ?_;rintro e w5 ⟨rfl,b5,sc',r5,s5⟩;have H5:=J01 (And.intro r5 (And.intro s5 (Below.trans H4.out.2 b5)));clear r5 s5 b5 HCh;have HWs:=J01 (Jdb w5 M (.slice ra rl rc) cv _ _ _ f k d H5.out.1 (HS.out.2.below H5.out.2.2 Hk.out.2.2.2.2.2.1) k0 k1 HC.out.1 HC.out.2 Hk.out.2.2.2.2.1);dsimp only at HWs;obtain⟨v,hv⟩:∃v,f k (q.puts k.toNat - d)=v:=⟨_,rfl⟩;rw[hv]at HWs HP;clear hv;go_wp2_with (fail)
 refine HWs.out.mono ?_;rintro e w6 ⟨rfl,rfl⟩;clear HWs;have HLv:=J01 (J72 w6 M (.slice ra rl rc) cv _ _ _ H5.out.1 Hst.out.1 Hst.out.2);go_wp2_with (fail)
 refine HLv.out.mono ?_;rintro e w7 ⟨rfl,r7,b7⟩;have H7:=J01 (And.intro r7 (And.intro (H5.out.2.1.below (Below.mono b7 Hk.out.2.2.2.2.2.2)) (Below.trans H5.out.2.2 b7)));have q7:=J08 (H7.out.1.left (List.mem_cons_self)) 1 (V a) (by simp);obtain⟨y7,f7⟩:=H7.out.1.run.r a.toNat Hk.out.2.2.1;dsimp only at q7 y7;clear r7 b7 HLv;go_wp2
 go_region
 go_wp2;go_end0;refine HP.out _ _ ⟨rfl,J0a (J0f H7.out.2.2 _ _),sc',?_,⟨((H7.out.1.fewer x.mo (fun p hp=>List.mem_cons_of_mem _ hp)).run.setR a.toNat Hk.out.2.2.1 v).drew⟩⟩;exact H7.out.2.1.below (Below.mono (J0a (J0f (Below.refl _ _) _ _)) Hk.out.2.2.2.2.2.2)
theorem RunS.setWd{w:World}{M:Nat}{rv cv:Value}{x:Ms}{q:Tl}{se:List Se}(h:RunS w M rv cv x q se)(k:Nat)(hk:k < 384)(n:Int):RunS (w.setCell ⟨M,17+k,none⟩ (V n)) M rv cv { x with wd:=setN x.wd k n } q se:=⟨h.run.setWd k hk n⟩
theorem RunS.setNext{w:World}{M:Nat}{rv cv:Value}{x:Ms}{q:Tl}{se:List Se}(h:RunS w M rv cv x q se)(n:Int):RunS (w.setCell ⟨M,401,none⟩ (V n)) M rv cv { x with next:=n } q se:=⟨h.run.setNext n⟩

theorem Jer(op a b c n k:Int)(w:World)(M:Nat)(rv cv:Value)(x:Ms)(q:Tl)(se:List Se)(h:RunS w M rv cv x q se)(ha:q.ahead=false)(hN:J7c op a b c n k false M rv cv x q se):
  Calls Tryz.prog 70 #[.pointer (some ⟨M,0,none⟩),.agg #[V op,V a,V b,V c,V n]] w fun e w'=>e=.returned (.tuple #[])/\RunS w' M rv cv { x with fin:=2,ended:=true } q se/\Below M w w':=by
 have hM:=h.lt;have HR:=J01 (J6m op a b c n k 1 _ M rv cv _ q se (h.beside (.cells #[V op,V a,V b,V c,V n] 41)) ha (fun w1 m1=>hN w1 _ ((h.beside _).more m1)));clear h ha hN;go_enter Tryz.func70,Tryz.ntmps70;go_wp2_with (fail)
 refine HR.out.mono ?_;rintro e w2 ⟨rfl,r2,b2⟩;have H2:=J01 (And.intro r2 b2);clear r2 b2 HR;go_wp2;refine bodyPost_ret (results_none (by kernel_rfl) _ _ _) rfl ?_;exact⟨rfl,H2.out.1.fewer x.mo (fun p hp=>List.mem_cons_of_mem _ hp),Below.trans (J07 (Below.refl _ _) (Nat.le_of_lt hM) _) H2.out.2⟩

theorem Jd8(op a b c n k:Int)(t:Bool)(w:World)(M:Nat)(ra:Option Addr)(rl rc:Nat)(cv:Value)(x:Ms)(q:Tl)(se:List Se)(h:RunS w M (.slice ra rl rc) cv x q se)(hl:se.length<=200000)(hok:t=true\/q.ahead=true)(hrl:rl<=6)
  (hk:¬(0<=k/\k < x.st rl)) (hN:J7c op a b c n k t M (.slice ra rl rc) cv x q se):
  Calls Tryz.prog 70 #[.pointer (some ⟨M,0,none⟩),.agg #[V op,V a,V b,V c,V n]] w fun e w'=>e=.returned (.tuple #[])/\RunS w' M (.slice ra rl rc) cv x q (se++[⟨2,k,1⟩])/\Below M w w':=by
 have hM:=h.lt;have HR:=J01 (J2h op a b c n k 1 t _ M (.slice ra rl rc) cv _ q se (h.beside (.cells #[V op,V a,V b,V c,V n] 41)) hl hok (fun w1 m1=>hN w1 _ ((h.beside _).more m1)));have Hk:Hid (¬(0<=k/\k < x.st rl)/\rl<=6):=⟨hk,hrl⟩;clear h hok hN hl hk hrl;go_enter Tryz.func70,Tryz.ntmps70;go_wp2_with (fail)
 refine HR.out.mono ?_;rintro e w2 ⟨rfl,r2,b2⟩;have H2:=J01 (And.intro r2 b2);clear r2 b2 HR;have hW:=J2v w2 M ra rl rc cv _ _ k H2.out.1.run Hk.out.2;dsimp only at hW;rw[show(decide (0<=k)&&decide (k < x.st rl))=false by rw[<-Bool.decide_and];exact decide_eq_false Hk.out.1]at hW;have HW:=J01 hW;clear hW;go_wp2_with (fail)
 refine HW.out.mono ?_;rintro e w3 ⟨rfl,m3⟩;have H3:=J01 (And.intro (H2.out.1.more m3) m3);clear m3 HW;go_wp2;refine bodyPost_ret (results_none (by kernel_rfl) _ _ _) rfl ?_;exact⟨rfl,H3.out.1.fewer x.mo (fun p hp=>List.mem_cons_of_mem _ hp),J11 (Below.trans (J07 (Below.refl _ _) (Nat.le_of_lt hM) _) H2.out.2) (Nat.le_of_lt H2.out.1.lt) H3.out.2⟩

theorem Jbm(op a b c n k:Int)(t:Bool)(w:World)(M:Nat)(ra:Option Addr)(rl rc:Nat)(cv:Value)(x:Ms)(q:Tl)(se:List Se)(f:Int->Int->Int)(h:RunS w M (.slice ra rl rc) cv x q se)(hl:se.length<=200000)(hok:t=true\/q.ahead=true)(hrl:rl<=6)(a0:0<=a)(a1:a < 10)
  (hk:0<=k/\k < x.st rl) (hst:x.st rl<=384) (hp0:0<=q.puts k.toNat) (hp:q.puts k.toNat<=100000) (hmb:q.mb < M) (hm:MapAt w q.mb f) (hN:J7c op a b c n k t M (.slice ra rl rc) cv x q se):
  Calls Tryz.prog 70 #[.pointer (some ⟨M,0,none⟩),.agg #[V op,V a,V b,V c,V n]] w fun e w'=>e=.returned (.tuple #[])/\Below q.mb w w'/\MapAt w' q.mb (fun n' t'=>if n'=k/\t'=q.puts k.toNat then x.wd k.toNat else f n' t')/\RunS w' M (.slice ra rl rc) cv { x with wd:=setN x.wd k.toNat (x.r a.toNat)} { q with puts:=setN q.puts k.toNat (q.puts k.toNat+1)} (se++[⟨2,k,1⟩]):=by
 suffices H0:∀P:Ending->World->Prop,(∀e w',(e=.returned (.tuple #[])/\Below q.mb w w'/\MapAt w' q.mb (fun n' t'=>if n'=k/\t'=q.puts k.toNat then x.wd k.toNat else f n' t')/\RunS w' M (.slice ra rl rc) cv { x with wd:=setN x.wd k.toNat (x.r a.toNat)} { q with puts:=setN q.puts k.toNat (q.puts k.toNat+1)} (se++[⟨2,k,1⟩]))->P e w')->Calls Tryz.prog 70 #[.pointer (some ⟨M,0,none⟩),.agg #[V op,V a,V b,V c,V n]] w P from H0 _ (fun _ _ h=>h)
 intro P hP;have HP:=J01 hP;clear hP;have hM:=h.lt;have HR:=J01 (J2h op a b c n k 1 t _ M (.slice ra rl rc) cv _ q se (h.beside (.cells #[V op,V a,V b,V c,V n] 41)) hl hok (fun w1 m1=>hN w1 _ ((h.beside _).more m1)));have Hk:Hid ((0<=k/\k < x.st rl)/\rl<=6/\a.toNat < 10/\k.toNat < 384/\q.puts k.toNat<=100000/\q.mb < M/\0<=q.puts k.toNat):=⟨hk,hrl,by omega,by omega,hp,hmb,hp0⟩;have HM:=J01 hm;have k0:0<=k:=hk.1;have k1:k < 384:=by omega
 clear h hok hN hl hk hrl hm hp hmb hst hp0;go_enter Tryz.func70,Tryz.ntmps70;go_wp2_with (fail)
 refine HR.out.mono ?_;rintro e w2 ⟨rfl,r2,b2⟩;have H2:=J01 (And.intro r2 b2);clear r2 b2 HR;have hW:=J2v w2 M ra rl rc cv _ _ k H2.out.1.run Hk.out.2.1;dsimp only at hW;rw[show(decide (0<=k)&&decide (k < x.st rl))=true by rw[<-Bool.decide_and];exact decide_eq_true Hk.out.1]at hW;have HW:=J01 hW;clear hW;go_wp2_with (fail)
 refine HW.out.mono ?_;rintro e w3 ⟨rfl,m3⟩;have H3:=J01 (And.intro (H2.out.1.more m3) (J11 (Below.trans (J07 (Below.refl _ _) (Nat.le_of_lt hM) _) H2.out.2) (Nat.le_of_lt H2.out.1.lt) m3));have c412:=H3.out.1.map.1;have cp:=(H3.out.1.puts k.toNat Hk.out.2.2.2.1).1;have cw:=(H3.out.1.run.wd k.toNat Hk.out.2.2.2.1).1;dsimp only at cw;obtain⟨tm,htm⟩:∃tm,q.puts k.toNat=tm:=⟨_,rfl⟩;obtain⟨v,hv⟩:∃v,x.wd k.toNat=v:=⟨_,rfl⟩;obtain⟨mb,hmb⟩:∃mb,q.mb=mb:=⟨_,rfl⟩;rw[htm]at cp;rw[hv]at cw;rw[hmb]at c412;have Hv:=J01 (And.intro htm (And.intro hv hmb));clear m3 HW htm hv hmb;have hn:¬M=w.heap.size:=by omega
 have hn':¬w.heap.size=M:=by omega
 obtain⟨S,HS⟩:∃S:World->Prop,Hid (∀w',S w'↔(w'.cell? ⟨M,412,none⟩=some (.map (some mb))/\w'.cell? ⟨M,413+k.toNat,none⟩=some (V tm)/\w'.cell? ⟨M,17+k.toNat,none⟩=some (V v))):=⟨_,fun _=>Iff.rfl⟩;have j1:∀i:{ w' // S w' },i.val.cell? ⟨M,412,none⟩=some (.map (some mb)):=fun i=>((HS.out _).1 i.property).1
 have j2:∀i:{ w' // S w' },i.val.cell? ⟨M,413+k.toNat,none⟩=some (V tm):=fun i=>((HS.out _).1 i.property).2.1
 have j3:∀i:{ w' // S w' },i.val.cell? ⟨M,17+k.toNat,none⟩=some (V v):=fun i=>((HS.out _).1 i.property).2.2
 have hne:Nonempty { w' // S w' }:=⟨⟨w3,(HS.out _).2 ⟨c412,cp,cw⟩⟩⟩;have hS3:S w3.drew:=(HS.out _).2 ⟨c412,cp,cw⟩;go_wp2_with (fail)
 refine J04 (S:=S) [(0,true),(1,true),(2,true),(3,true),(4,true),(5,true),(6,true),(7,true),(8,true),(9,true),(10,true),(11,true),(12,true),(13,true),(14,true),(15,true),(16,true),(17,true),(18,true),(19,true),(20,false)] (by kernel_rfl) (by kernel_rfl) (by kernel_rfl) hS3 ?_
 iterate 20 (refine J00 rfl (by kernel_rfl) (fun K hK=>?_);go_simp;refine hK _ _ ?_;clear hK K)
 refine J03 rfl (by kernel_rfl) (fun K hK=>?_)
 have hm3:MapAt w3.drew mb f:=by
  have:=(HM.out.below H3.out.2 Hk.out.2.2.2.2.2.1).block (w':=w3.drew) rfl;rw[Hv.out.2.2]at this;exact this
 have hmM:mb < M:=by rw[<-Hv.out.2.2];exact Hk.out.2.2.2.2.2.1
 refine Jjw (.tmp 25) (.tmp 33) (.tmp 41) rfl mb f k tm v rfl rfl rfl hm3 (by unfold B64;omega) (by have h1:=Hk.out.2.2.2.2.1;have h2:=Hk.out.2.2.2.2.2.2;rw[Hv.out.1]at h1 h2;unfold B64;omega) ?_;intro w4 m4 g4;have r4:=H3.out.1.drew.kept g4 (fun b hb=>by have:=Option.some.inj hb;omega);obtain⟨c413,f413⟩:=r4.puts k.toNat Hk.out.2.2.2.1;rw[Hv.out.1]at c413;obtain⟨c17,f17⟩:=r4.run.wd k.toNat Hk.out.2.2.2.1;have c7:=(r4.run.r a.toNat Hk.out.2.2.1).1;have c412':=r4.map.1;rw[Hv.out.2.2]at c412';have q4:=J08 (r4.left (List.mem_cons_self)) 1 (V a) (by simp);dsimp only at q4 c7 c17;rw[Hv.out.2.1]at c17;obtain⟨ya,hya⟩:∃y,x.r a.toNat=y:=⟨_,rfl⟩;rw[hya]at c7;have H4:=J01 (And.intro r4 (And.intro m4 (And.intro g4 hya)));refine hK _ _ ((HS.out _).2 ⟨c412',c413,c17⟩) ?_;clear hK K;refine J06 ?_;clear j1 j2 j3 hne hS3 hm3 r4 m4 g4 hya c412 cp cw c412';have hwt:wrap64 (tm+1)=tm+1:=by have h1:=Hk.out.2.2.2.2.1;have h2:=Hk.out.2.2.2.2.2.2;rw[Hv.out.1]at h1 h2;unfold wrap64;omega
 have hwr:=J17;have hnk:¬7+a.toNat=413+k.toNat:=by have:=Hk.out.2.2.1;omega
 have hnk':¬17+k.toNat=413+k.toNat:=by omega
 go_simp
 go_wp2_with (fail)
 go_region
 go_wp2_with (fail)
 go_region
 go_wp2;go_end0;obtain⟨e1,e2,e3⟩:=Hv.out;have h5:=((((H4.out.1.setPut k.toNat Hk.out.2.2.2.1 (tm+1)).drew).setWd k.toNat Hk.out.2.2.2.1 ya).drew).fewer x.mo (fun p hp=>List.mem_cons_of_mem _ hp);refine HP.out _ _ ⟨rfl,?_,?_,?_⟩
 ·rw[e3]
  have hle:mb<=M:=Nat.le_of_lt hmM;exact J0a (J0a (Below.setCell (Below.setCell (Below.grown (J0a (Below.mono H3.out.2 hle)) H4.out.2.2.1 (by have:=H3.out.1.lt;simp;omega) (fun b hb=>by have:=Option.some.inj hb;omega)) hle _) hle _))
 ·rw[e1,e2,e3]
  refine H4.out.2.1.block ?_;show((w4.setCell ⟨M,413+k.toNat,none⟩ _).setCell ⟨M,17+k.toNat,none⟩ _).heap[mb]?=_;rw[Below.heap_setCell _ _ _ _ (by dsimp only;omega),Below.heap_setCell _ _ _ _ (by dsimp only;omega)]
 ·rw[e1,H4.out.2.2.2]
  exact h5
theorem RunS.next{w:World}{M:Nat}{rv cv:Value}{x:Ms}{q:Tl}{se:List Se}(h:RunS w M rv cv x q se):Wr w M 401 (V x.next):=h.run.next

theorem Jeq(a b c n oth:Int)(hh:Bool)(w:World)(M B:Nat)(rv cv:Value)(x x2:Ms)(q:Tl)(se:List Se)(L:List Int)(h:RunS w M rv cv x q se)(hB:B<=M)(hs:ScAt w B q.sc L)(s0:0<=x2.steps)(s1:x2.steps<=100000)
  (hoth:oth=if hh=true then x.next else n)
  (hH:∀w1 mo,RunS w1 M rv cv { x with mo:=mo } q se->Calls Tryz.prog 61 #[.pointer (some ⟨M,0,none⟩),.agg #[V 8,V a,V b,V c,V n]] w1 fun e w'=>e=.returned (.bool hh)/\More w1 w')
  (hD:∀w1 mo,RunS w1 M rv cv { x with mo:=mo } q se->Calls Tryz.prog 26 #[.pointer (some ⟨M,0,none⟩),.agg #[V 8,V a,V b,V c,V n]] w1 fun e w'=>e=.returned (.tuple #[])/\RunS w' M rv cv { x2 with mo:=mo } q se/\Below M w1 w'):
  Calls Tryz.prog 68 #[.pointer (some ⟨M,0,none⟩),.agg #[V 8,V a,V b,V c,V n]] w fun e w'=>e=.returned (.tuple #[])/\Below M w w'/\∃sc',ScAt w' B sc' L.tail/\
   RunS w' M rv cv (if L.headD 0=0 then { x2 with mo:=x.mo } else { x2 with next:=oth,mo:=x.mo }) (if L.headD 0=0 then { q with sc:=sc' } else Tl.left { q with sc:=sc' } x2) se:=by
 suffices H0:∀P:Ending->World->Prop,(∀e w',(e=.returned (.tuple #[])/\Below M w w'/\∃sc',ScAt w' B sc' L.tail/\
   RunS w' M rv cv (if L.headD 0=0 then { x2 with mo:=x.mo } else { x2 with next:=oth,mo:=x.mo }) (if L.headD 0=0 then { q with sc:=sc' } else Tl.left { q with sc:=sc' } x2) se)->P e w')->Calls Tryz.prog 68 #[.pointer (some ⟨M,0,none⟩),.agg #[V 8,V a,V b,V c,V n]] w P from H0 _ (fun _ _ h=>h)
 intro P hP;obtain⟨d,hd⟩:∃d,L.headD 0=d:=⟨_,rfl⟩;rw[hd]at hP;have HP:=J01 hP;have Hd:=J01 hd;clear hP hd;have hM:=h.lt;have hn:¬M=w.heap.size:=by omega
 have hn':¬w.heap.size=M:=by omega
 have hx:=h.next.1;obtain⟨nx,hnx⟩:∃nx,x.next=nx:=⟨_,rfl⟩;rw[hnx]at hx hoth;have H:=J01 (And.intro (h.beside (.cells #[V 8,V a,V b,V c,V n] 41)) (And.intro hs (And.intro hB (And.intro s0 s1))));have HH:=J01 hH;have HD:=J01 hD;have Ho:=J01 hoth;clear h hs hB s0 s1 hH hD hoth hnx;obtain⟨S,HS⟩:∃S:World->Prop,Hid (∀w',S w'↔More (w.alloc (.cells #[V 8,V a,V b,V c,V n] 41)) w'):=⟨_,fun _=>Iff.rfl⟩;have k0:∀i:{ w' // S w' },i.val.cell? ⟨w.heap.size,0,none⟩=some (V 8):=fun i=>((HS.out _).1 i.property).cell (by go_simp)
 have k1:∀i:{ w' // S w' },i.val.cell? ⟨w.heap.size,1,none⟩=some (V a):=fun i=>((HS.out _).1 i.property).cell (by go_simp)
 have k2:∀i:{ w' // S w' },i.val.cell? ⟨w.heap.size,2,none⟩=some (V b):=fun i=>((HS.out _).1 i.property).cell (by go_simp)
 have k3:∀i:{ w' // S w' },i.val.cell? ⟨w.heap.size,3,none⟩=some (V c):=fun i=>((HS.out _).1 i.property).cell (by go_simp)
 have k4:∀i:{ w' // S w' },i.val.cell? ⟨w.heap.size,4,none⟩=some (V n):=fun i=>((HS.out _).1 i.property).cell (by go_simp)
 have hne:Nonempty { w' // S w' }:=⟨⟨_,(HS.out _).2 (More.refl _)⟩⟩;go_enter Tryz.func68,Tryz.ntmps68;go_wp2_with (fail)
 refine J04 (S:=S) [(0,true),(1,true),(2,true),(3,true),(4,false),(5,true)] (by kernel_rfl) (by kernel_rfl) (by kernel_rfl) ((HS.out _).2 (More.refl _).drew) ?_
 iterate 4 (refine J00 rfl (by kernel_rfl) (fun K hK=>?_);go_simp;refine hK _ _ ?_;clear hK K)
 refine J03 rfl (by kernel_rfl) (fun K hK=>?_);go_simp;refine(HH.out _ _ H.out.1.drew).mono ?_;rintro e w5 ⟨rfl,m5⟩;have Hm5:Hid (More (w.alloc (.cells #[V 8,V a,V b,V c,V n] 41)) w5):=(More.refl _).drew.trans m5;have q0:=Hm5.out.cell (a:=⟨w.heap.size,0,none⟩) (v:=V 8) (by go_simp);have q1:=Hm5.out.cell (a:=⟨w.heap.size,1,none⟩) (v:=V a) (by go_simp);have q2:=Hm5.out.cell (a:=⟨w.heap.size,2,none⟩) (v:=V b) (by go_simp);have q3:=Hm5.out.cell (a:=⟨w.heap.size,3,none⟩) (v:=V c) (by go_simp);have q4:=Hm5.out.cell (a:=⟨w.heap.size,4,none⟩) (v:=V n) (by go_simp);clear m5
 go_simp
 refine hK _ _ ((HS.out _).2 Hm5.out) ?_;clear hK K;refine J00 rfl (by kernel_rfl) (fun K hK=>?_);go_simp;refine hK _ _ ?_;clear hK K;refine J06 ?_;clear k0 k1 k2 k3 k4 hne;have hr5:=H.out.1.more Hm5.out;have hb5:Below M w w5:=J11 (J07 (Below.refl _ _) (Nat.le_of_lt hM) _) (by have:=H.out.1.lt;omega) Hm5.out;have H5:=J01 (And.intro hr5 hb5);have HD5:=J01 (HD.out _ _ H5.out.1.drew);clear hr5 hb5 HS HH HD;cases hh with
 | true=>
  obtain rfl:oth=nx:=Ho.out;clear Ho;go_wp2_with (fail)
  go_region_with (go_at_call 26;refine HD5.out.mono ?_;rintro e w6 ⟨rfl,r6,b6⟩;have H6:=J01 (And.intro r6 (Below.trans (J0a H5.out.2) b6));clear r6 b6)
  clear HD5;have hCh:=(J48 w6 M B rv cv _ q _ L H6.out.1 (H.out.2.1.below (Below.mono H6.out.2 H.out.2.2.1)) H.out.2.2.1);rw[Hd.out]at hCh;have HCh:=J01 hCh;clear hCh;by_cases d0:d=0
  ·subst d0
   go_wp2_with (fail)
   refine HCh.out.mono ?_;rintro e w7 ⟨rfl,b7,sc',r7,s7⟩;have H7:=J01 (And.intro r7 (And.intro s7 (Below.trans H6.out.2 b7)));clear r7 s7 b7 HCh;go_wp2;go_end0;refine HP.out _ _ ⟨rfl,H7.out.2.2,sc',H7.out.2.1,?_⟩;rw[if_pos trivial,if_pos trivial];exact H7.out.1.fewer x.mo (fun p hp=>List.mem_cons_of_mem _ hp)
  ·have d0':(d==0)=false:=by simp[d0]
   go_wp2_with (fail)
   refine HCh.out.mono ?_;rintro e w7 ⟨rfl,b7,sc',r7,s7⟩;have H7:=J01 (And.intro r7 (And.intro s7 (Below.trans H6.out.2 b7)));clear r7 s7 b7 HCh;have HLv:=J01 (J72 w7 M rv cv _ _ _ H7.out.1 H.out.2.2.2.1 H.out.2.2.2.2);go_wp2_with (fail)
   refine HLv.out.mono ?_;rintro e w8 ⟨rfl,r8,b8⟩;have H8:=J01 (And.intro r8 (And.intro (H7.out.2.1.below (Below.mono b8 H.out.2.2.1)) (Below.trans H7.out.2.2 b8)));obtain⟨y8,f8⟩:=r8.next;dsimp only at y8;clear r8 b8 HLv;go_wp2;go_end0;refine HP.out _ _ ⟨rfl,J0f H8.out.2.2 _ _,sc',H8.out.2.1.below (Below.mono (J0f (Below.refl _ _) _ _) H.out.2.2.1),?_⟩;rw[if_neg d0,if_neg d0];exact(H8.out.1.setNext _).fewer x.mo (fun p hp=>List.mem_cons_of_mem _ hp)
 | false=>
  obtain rfl:oth=n:=Ho.out;clear Ho;go_wp2_with (fail)
  go_region_with (go_at_call 26;refine HD5.out.mono ?_;rintro e w6 ⟨rfl,r6,b6⟩;have H6:=J01 (And.intro r6 (Below.trans (J0a H5.out.2) b6));clear r6 b6)
  clear HD5;have hCh:=(J48 w6 M B rv cv _ q _ L H6.out.1 (H.out.2.1.below (Below.mono H6.out.2 H.out.2.2.1)) H.out.2.2.1);rw[Hd.out]at hCh;have HCh:=J01 hCh;clear hCh;by_cases d0:d=0
  ·subst d0
   go_wp2_with (fail)
   refine HCh.out.mono ?_;rintro e w7 ⟨rfl,b7,sc',r7,s7⟩;have H7:=J01 (And.intro r7 (And.intro s7 (Below.trans H6.out.2 b7)));clear r7 s7 b7 HCh;go_wp2;go_end0;refine HP.out _ _ ⟨rfl,H7.out.2.2,sc',H7.out.2.1,?_⟩;rw[if_pos trivial,if_pos trivial];exact H7.out.1.fewer x.mo (fun p hp=>List.mem_cons_of_mem _ hp)
  ·have d0':(d==0)=false:=by simp[d0]
   go_wp2_with (fail)
   refine HCh.out.mono ?_;rintro e w7 ⟨rfl,b7,sc',r7,s7⟩;have H7:=J01 (And.intro r7 (And.intro s7 (Below.trans H6.out.2 b7)));clear r7 s7 b7 HCh;have HLv:=J01 (J72 w7 M rv cv _ _ _ H7.out.1 H.out.2.2.2.1 H.out.2.2.2.2);go_wp2_with (fail)
   refine HLv.out.mono ?_;rintro e w8 ⟨rfl,r8,b8⟩;have H8:=J01 (And.intro r8 (And.intro (H7.out.2.1.below (Below.mono b8 H.out.2.2.1)) (Below.trans H7.out.2.2 b8)));obtain⟨y8,f8⟩:=r8.next;dsimp only at y8;clear r8 b8 HLv;go_wp2;go_end0;refine HP.out _ _ ⟨rfl,J0f H8.out.2.2 _ _,sc',H8.out.2.1.below (Below.mono (J0f (Below.refl _ _) _ _) H.out.2.2.1),?_⟩;rw[if_neg d0,if_neg d0];exact(H8.out.1.setNext _).fewer x.mo (fun p hp=>List.mem_cons_of_mem _ hp)
def endsS(op:Int)(x:Ms)(q:Tl):Bool:=q.ahead&&decide (op=12\/op=9\/x.steps=q.til)
def backX(b:Bool)(x:Ms)(q:Tl):Ms:=if b=true then { x with r:=q.br,wd:=q.bw,next:=q.bn } else x
def backQ(b:Bool)(q:Tl):Tl:=if b=true then { q with puts:=q.bp,ahead:=false } else q
def J1f(b:Bool)(se:List Se):List Se:=if b=true then se++[⟨4,0,0⟩] else se

structure Acts(F:Nat)(op a b c n:Int)(w:World)(M B:Nat)(rv cv:Value)(x1:Ms)(q:Tl)(se1:List Se)(Good:World->Ms->Tl->List Se->Prop):Prop where
 out:∀w1 mo,RunS w1 M rv cv { x1 with mo:=mo } q se1->Below M w w1->Calls Tryz.prog F #[.pointer (some ⟨M,0,none⟩),.agg #[V op,V a,V b,V c,V n]] w1 fun e w'=>
  e=.returned (.tuple #[])/\Below B w1 w'/\∃x2 q2 se2,Good w' x2 q2 se2/\RunS w' M rv cv { x2 with mo:=mo } q2 se2

theorem J9m(op:Int)(a b c n:Int)(w:World)(M B:Nat)(rv cv:Value)(x x1:Ms)(q:Tl)(se1:List Se)(Good:World->Ms->Tl->List Se->Prop)(n3:¬op=3)(n4:¬op=4)(n5:¬op=5)(n6:¬op=6)(n8:¬op=8)(n9:¬op=9)(hB:B<=M)(hmo:x1.mo=x.mo)(hMw:M < w.heap.size)
  (hst:∀w1 w2 x2 q2 se2,Good w1 x2 q2 se2->Below M w1 w2->Good w2 x2 q2 se2) (hlen:∀w1 x2 q2 se2,Good w1 x2 q2 se2->se2.length<=200000)
  (hBg:Calls Tryz.prog 27 #[.pointer (some ⟨M,0,none⟩)] w fun e w'=>e=.returned (.agg #[V op,V a,V b,V c,V n])/\RunS w' M rv cv x1 q se1/\Below M w w')
  (hA:Acts 26 op a b c n w M B rv cv x1 q se1 Good):
  Calls Tryz.prog 31 #[.pointer (some ⟨M,0,none⟩)] w fun e w'=>e=.returned (.tuple #[])/\Below B w w'/\∃x2 q2 se2,Good w' x2 q2 se2/\RunS w' M rv cv { backX (endsS op x2 q2) x2 q2 with mo:=x.mo } (backQ (endsS op x2 q2) q2) (J1f (endsS op x2 q2) se2):=by
 suffices H0:∀P:Ending->World->Prop,(∀e w',(e=.returned (.tuple #[])/\Below B w w'/\∃x2 q2 se2,Good w' x2 q2 se2/\RunS w' M rv cv { backX (endsS op x2 q2) x2 q2 with mo:=x.mo } (backQ (endsS op x2 q2) q2) (J1f (endsS op x2 q2) se2))->P e w')->Calls Tryz.prog 31 #[.pointer (some ⟨M,0,none⟩)] w P from H0 _ (fun _ _ h=>h)
 intro P hP;have HP:=J01 hP;have H:=J01 (And.intro hst (And.intro hlen (And.intro hB (And.intro hmo hMw))));have HB:=J01 hBg;have HA:=J01 hA;clear hP hst hlen hB hmo hMw hBg hA;go_enter Tryz.func31,Tryz.ntmps31;go_wp2_with (fail)
 refine HB.out.mono ?_;rintro e w1 ⟨rfl,r1,b1⟩;have H1:=J01 (And.intro r1 b1);have hM1:=r1.lt;clear r1 b1 HB;have HA2:=J01 (HA.out.out _ _ (H1.out.1.beside (.cells #[V op,V a,V b,V c,V n] 41)).drew (J0a (J07 H1.out.2 (Nat.le_of_lt hM1) _)));clear HA;go_wp2_with (fail)
 go_region_with (go_at_call 26;refine HA2.out.mono ?_;rintro e w3 ⟨rfl,b3,x2,q2,se2,g3,r3⟩;have H3:=J01 (And.intro g3 (And.intro r3 b3));clear g3 r3 b3)
 have hb3:Below B w w3:=Below.trans (Below.mono (J0a (J07 H1.out.2 (Nat.le_of_lt hM1) _)) H.out.2.2.1) H3.out.2.2;have HB3:=J01 hb3;have ca:=H3.out.2.1.ahead.1;have hbox:=H3.out.2.1.left (List.mem_cons_self);have z0:=J08 hbox 0 (V op) (by simp);have z1:=J08 hbox 1 (V a) (by simp);have z2:=J08 hbox 2 (V b) (by simp);have z3:=J08 hbox 3 (V c) (by simp);have z4:=J08 hbox 4 (V n) (by simp);dsimp only at z0 z1 z2 z3 z4;clear hbox HA2 hb3;cases hah:q2.ahead with
 | false=>
  rw[hah]at ca;have Hah:=J01 hah;clear hah;go_wp2;go_end0;refine HP.out _ _ ⟨rfl,HB3.out,x2,q2,se2,H3.out.1,?_⟩;have e0:endsS op x2 q2=false:=by unfold endsS;rw[Hah.out];rfl
  rw[e0];show RunS w3 M rv cv { x2 with mo:=x.mo } q2 se2;rw[<-H.out.2.2.2.1];exact H3.out.2.1.fewer x1.mo (fun p hp=>List.mem_cons_of_mem _ hp)
 | true=>
  rw[hah]at ca;have Hah:=J01 hah;clear hah;have hE:=J1e op a b c n w3 M rv cv _ q2 se2 H3.out.2.1;dsimp only at hE;obtain⟨bb,hbb⟩:∃bb,decide ((op:Int)=12\/(op:Int)=9\/x2.steps=q2.til)=bb:=⟨_,rfl⟩;rw[hbb]at hE;have e0:endsS op x2 q2=bb:=by unfold endsS;rw[Hah.out,hbb];rfl
  have He0:=J01 e0;have HE:=J01 hE;clear hE e0 hbb;go_wp2_with (fail)
  refine HE.out.mono ?_;rintro e w4 ⟨rfl,m4⟩;have H4:=J01 (And.intro (H3.out.2.1.more m4) (And.intro (H.out.1 _ _ _ _ _ H3.out.1 (Below.mono m4 (Nat.le_of_lt H3.out.2.1.lt))) (J11 HB3.out (by have:=H3.out.2.1.lt;have:=H.out.2.2.1;omega) m4)));clear m4 HE;cases bb with
  | false=>
   go_wp2;go_end0;refine HP.out _ _ ⟨rfl,H4.out.2.2,x2,q2,se2,H4.out.2.1,?_⟩;rw[He0.out];show RunS w4 M rv cv { x2 with mo:=x.mo } q2 se2;rw[<-H.out.2.2.2.1];exact H4.out.1.fewer x1.mo (fun p hp=>List.mem_cons_of_mem _ hp)
  | true=>
   have HT:=J01 (J1c w4 M rv cv _ q2 se2 (H.out.2.1 _ _ _ _ H4.out.2.1) H4.out.1);go_wp2_with (fail)
   refine HT.out.mono ?_;rintro e w5 ⟨rfl,r5,b5⟩;have H5:=J01 (And.intro r5 b5);clear r5 b5 HT;go_wp2;go_end0;refine HP.out _ _ ⟨rfl,Below.trans H4.out.2.2 (Below.mono H5.out.2 H.out.2.2.1),x2,q2,se2,H.out.1 _ _ _ _ _ H4.out.2.1 H5.out.2,?_⟩;rw[He0.out];show RunS w5 M rv cv { x2 with r:=q2.br,wd:=q2.bw,next:=q2.bn,mo:=x.mo } { q2 with puts:=q2.bp,ahead:=false } (se2++[⟨4,0,0⟩]);rw[<-H.out.2.2.2.1];exact H5.out.1.fewer x1.mo (fun p hp=>List.mem_cons_of_mem _ hp)

theorem Jew(a b c n:Int)(w:World)(M B:Nat)(rv cv:Value)(x x1:Ms)(q:Tl)(se1:List Se)(Good:World->Ms->Tl->List Se->Prop)(hB:B<=M)(hmo:x1.mo=x.mo)(hMw:M < w.heap.size)
  (hst:∀w1 w2 x2 q2 se2,Good w1 x2 q2 se2->Below M w1 w2->Good w2 x2 q2 se2) (hlen:∀w1 x2 q2 se2,Good w1 x2 q2 se2->se2.length<=200000)
  (hBg:Calls Tryz.prog 27 #[.pointer (some ⟨M,0,none⟩)] w fun e w'=>e=.returned (.agg #[V 8,V a,V b,V c,V n])/\RunS w' M rv cv x1 q se1/\Below M w w')
  (hA:Acts 68 8 a b c n w M B rv cv x1 q se1 Good):
  Calls Tryz.prog 31 #[.pointer (some ⟨M,0,none⟩)] w fun e w'=>e=.returned (.tuple #[])/\Below B w w'/\∃x2 q2 se2,Good w' x2 q2 se2/\RunS w' M rv cv { backX (endsS 8 x2 q2) x2 q2 with mo:=x.mo } (backQ (endsS 8 x2 q2) q2) (J1f (endsS 8 x2 q2) se2):=by
 suffices H0:∀P:Ending->World->Prop,(∀e w',(e=.returned (.tuple #[])/\Below B w w'/\∃x2 q2 se2,Good w' x2 q2 se2/\RunS w' M rv cv { backX (endsS 8 x2 q2) x2 q2 with mo:=x.mo } (backQ (endsS 8 x2 q2) q2) (J1f (endsS 8 x2 q2) se2))->P e w')->Calls Tryz.prog 31 #[.pointer (some ⟨M,0,none⟩)] w P from H0 _ (fun _ _ h=>h)
 intro P hP;have HP:=J01 hP;have H:=J01 (And.intro hst (And.intro hlen (And.intro hB (And.intro hmo hMw))));have HB:=J01 hBg;have HA:=J01 hA;clear hP hst hlen hB hmo hMw hBg hA;go_enter Tryz.func31,Tryz.ntmps31;go_wp2_with (fail)
 refine HB.out.mono ?_;rintro e w1 ⟨rfl,r1,b1⟩;have H1:=J01 (And.intro r1 b1);have hM1:=r1.lt;clear r1 b1 HB;have HA2:=J01 (HA.out.out _ _ (H1.out.1.beside (.cells #[V 8,V a,V b,V c,V n] 41)) ((J07 H1.out.2 (Nat.le_of_lt hM1) _)));clear HA;go_wp2_with (fail)
 refine HA2.out.mono ?_;rintro e w3 ⟨rfl,b3,x2,q2,se2,g3,r3⟩;have H3:=J01 (And.intro g3 (And.intro r3 b3));clear g3 r3 b3;have hb3:Below B w w3:=Below.trans (Below.mono ((J07 H1.out.2 (Nat.le_of_lt hM1) _)) H.out.2.2.1) H3.out.2.2;have HB3:=J01 hb3;have ca:=H3.out.2.1.ahead.1;have hbox:=H3.out.2.1.left (List.mem_cons_self);have z0:=J08 hbox 0 (V 8) (by simp);have z1:=J08 hbox 1 (V a) (by simp);have z2:=J08 hbox 2 (V b) (by simp);have z3:=J08 hbox 3 (V c) (by simp);have z4:=J08 hbox 4 (V n) (by simp);dsimp only at z0 z1 z2 z3 z4;clear hbox HA2 hb3;cases hah:q2.ahead with
 | false=>
  rw[hah]at ca;have Hah:=J01 hah;clear hah;go_wp2;go_end0;refine HP.out _ _ ⟨rfl,HB3.out,x2,q2,se2,H3.out.1,?_⟩;have e0:endsS 8 x2 q2=false:=by unfold endsS;rw[Hah.out];rfl
  rw[e0];show RunS w3 M rv cv { x2 with mo:=x.mo } q2 se2;rw[<-H.out.2.2.2.1];exact H3.out.2.1.fewer x1.mo (fun p hp=>List.mem_cons_of_mem _ hp)
 | true=>
  rw[hah]at ca;have Hah:=J01 hah;clear hah;have hE:=J1e 8 a b c n w3 M rv cv _ q2 se2 H3.out.2.1;dsimp only at hE;obtain⟨bb,hbb⟩:∃bb,decide ((8:Int)=12\/(8:Int)=9\/x2.steps=q2.til)=bb:=⟨_,rfl⟩;rw[hbb]at hE;have e0:endsS 8 x2 q2=bb:=by unfold endsS;rw[Hah.out,hbb];rfl
  have He0:=J01 e0;have HE:=J01 hE;clear hE e0 hbb;go_wp2_with (fail)
  refine HE.out.mono ?_;rintro e w4 ⟨rfl,m4⟩;have H4:=J01 (And.intro (H3.out.2.1.more m4) (And.intro (H.out.1 _ _ _ _ _ H3.out.1 (Below.mono m4 (Nat.le_of_lt H3.out.2.1.lt))) (J11 HB3.out (by have:=H3.out.2.1.lt;have:=H.out.2.2.1;omega) m4)));clear m4 HE;cases bb with
  | false=>
   go_wp2;go_end0;refine HP.out _ _ ⟨rfl,H4.out.2.2,x2,q2,se2,H4.out.2.1,?_⟩;rw[He0.out];show RunS w4 M rv cv { x2 with mo:=x.mo } q2 se2;rw[<-H.out.2.2.2.1];exact H4.out.1.fewer x1.mo (fun p hp=>List.mem_cons_of_mem _ hp)
  | true=>
   have HT:=J01 (J1c w4 M rv cv _ q2 se2 (H.out.2.1 _ _ _ _ H4.out.2.1) H4.out.1);go_wp2_with (fail)
   refine HT.out.mono ?_;rintro e w5 ⟨rfl,r5,b5⟩;have H5:=J01 (And.intro r5 b5);clear r5 b5 HT;go_wp2;go_end0;refine HP.out _ _ ⟨rfl,Below.trans H4.out.2.2 (Below.mono H5.out.2 H.out.2.2.1),x2,q2,se2,H.out.1 _ _ _ _ _ H4.out.2.1 H5.out.2,?_⟩;rw[He0.out];show RunS w5 M rv cv { x2 with r:=q2.br,wd:=q2.bw,next:=q2.bn,mo:=x.mo } { q2 with puts:=q2.bp,ahead:=false } (se2++[⟨4,0,0⟩]);rw[<-H.out.2.2.2.1];exact H5.out.1.fewer x1.mo (fun p hp=>List.mem_cons_of_mem _ hp)

theorem Jes(a b c n:Int)(w:World)(M B:Nat)(rv cv:Value)(x x1:Ms)(q:Tl)(se1:List Se)(Good:World->Ms->Tl->List Se->Prop)(hB:B<=M)(hmo:x1.mo=x.mo)(hMw:M < w.heap.size)
  (hst:∀w1 w2 x2 q2 se2,Good w1 x2 q2 se2->Below M w1 w2->Good w2 x2 q2 se2) (hlen:∀w1 x2 q2 se2,Good w1 x2 q2 se2->se2.length<=200000)
  (hBg:Calls Tryz.prog 27 #[.pointer (some ⟨M,0,none⟩)] w fun e w'=>e=.returned (.agg #[V 3,V a,V b,V c,V n])/\RunS w' M rv cv x1 q se1/\Below M w w')
  (hA:Acts 69 3 a b c n w M B rv cv x1 q se1 Good):
  Calls Tryz.prog 31 #[.pointer (some ⟨M,0,none⟩)] w fun e w'=>e=.returned (.tuple #[])/\Below B w w'/\∃x2 q2 se2,Good w' x2 q2 se2/\RunS w' M rv cv { backX (endsS 3 x2 q2) x2 q2 with mo:=x.mo } (backQ (endsS 3 x2 q2) q2) (J1f (endsS 3 x2 q2) se2):=by
 suffices H0:∀P:Ending->World->Prop,(∀e w',(e=.returned (.tuple #[])/\Below B w w'/\∃x2 q2 se2,Good w' x2 q2 se2/\RunS w' M rv cv { backX (endsS 3 x2 q2) x2 q2 with mo:=x.mo } (backQ (endsS 3 x2 q2) q2) (J1f (endsS 3 x2 q2) se2))->P e w')->Calls Tryz.prog 31 #[.pointer (some ⟨M,0,none⟩)] w P from H0 _ (fun _ _ h=>h)
 intro P hP;have HP:=J01 hP;have H:=J01 (And.intro hst (And.intro hlen (And.intro hB (And.intro hmo hMw))));have HB:=J01 hBg;have HA:=J01 hA;clear hP hst hlen hB hmo hMw hBg hA;go_enter Tryz.func31,Tryz.ntmps31;go_wp2_with (fail)
 refine HB.out.mono ?_;rintro e w1 ⟨rfl,r1,b1⟩;have H1:=J01 (And.intro r1 b1);have hM1:=r1.lt;clear r1 b1 HB;have HA2:=J01 (HA.out.out _ _ (H1.out.1.beside (.cells #[V 3,V a,V b,V c,V n] 41)) ((J07 H1.out.2 (Nat.le_of_lt hM1) _)));clear HA;go_wp2_with (fail)
 refine HA2.out.mono ?_;rintro e w3 ⟨rfl,b3,x2,q2,se2,g3,r3⟩;have H3:=J01 (And.intro g3 (And.intro r3 b3));clear g3 r3 b3;have hb3:Below B w w3:=Below.trans (Below.mono ((J07 H1.out.2 (Nat.le_of_lt hM1) _)) H.out.2.2.1) H3.out.2.2;have HB3:=J01 hb3;have ca:=H3.out.2.1.ahead.1;have hbox:=H3.out.2.1.left (List.mem_cons_self);have z0:=J08 hbox 0 (V 3) (by simp);have z1:=J08 hbox 1 (V a) (by simp);have z2:=J08 hbox 2 (V b) (by simp);have z3:=J08 hbox 3 (V c) (by simp);have z4:=J08 hbox 4 (V n) (by simp);dsimp only at z0 z1 z2 z3 z4;clear hbox HA2 hb3;cases hah:q2.ahead with
 | false=>
  rw[hah]at ca;have Hah:=J01 hah;clear hah;go_wp2;go_end0;refine HP.out _ _ ⟨rfl,HB3.out,x2,q2,se2,H3.out.1,?_⟩;have e0:endsS 3 x2 q2=false:=by unfold endsS;rw[Hah.out];rfl
  rw[e0];show RunS w3 M rv cv { x2 with mo:=x.mo } q2 se2;rw[<-H.out.2.2.2.1];exact H3.out.2.1.fewer x1.mo (fun p hp=>List.mem_cons_of_mem _ hp)
 | true=>
  rw[hah]at ca;have Hah:=J01 hah;clear hah;have hE:=J1e 3 a b c n w3 M rv cv _ q2 se2 H3.out.2.1;dsimp only at hE;obtain⟨bb,hbb⟩:∃bb,decide ((3:Int)=12\/(3:Int)=9\/x2.steps=q2.til)=bb:=⟨_,rfl⟩;rw[hbb]at hE;have e0:endsS 3 x2 q2=bb:=by unfold endsS;rw[Hah.out,hbb];rfl
  have He0:=J01 e0;have HE:=J01 hE;clear hE e0 hbb;go_wp2_with (fail)
  refine HE.out.mono ?_;rintro e w4 ⟨rfl,m4⟩;have H4:=J01 (And.intro (H3.out.2.1.more m4) (And.intro (H.out.1 _ _ _ _ _ H3.out.1 (Below.mono m4 (Nat.le_of_lt H3.out.2.1.lt))) (J11 HB3.out (by have:=H3.out.2.1.lt;have:=H.out.2.2.1;omega) m4)));clear m4 HE;cases bb with
  | false=>
   go_wp2;go_end0;refine HP.out _ _ ⟨rfl,H4.out.2.2,x2,q2,se2,H4.out.2.1,?_⟩;rw[He0.out];show RunS w4 M rv cv { x2 with mo:=x.mo } q2 se2;rw[<-H.out.2.2.2.1];exact H4.out.1.fewer x1.mo (fun p hp=>List.mem_cons_of_mem _ hp)
  | true=>
   have HT:=J01 (J1c w4 M rv cv _ q2 se2 (H.out.2.1 _ _ _ _ H4.out.2.1) H4.out.1);go_wp2_with (fail)
   refine HT.out.mono ?_;rintro e w5 ⟨rfl,r5,b5⟩;have H5:=J01 (And.intro r5 b5);clear r5 b5 HT;go_wp2;go_end0;refine HP.out _ _ ⟨rfl,Below.trans H4.out.2.2 (Below.mono H5.out.2 H.out.2.2.1),x2,q2,se2,H.out.1 _ _ _ _ _ H4.out.2.1 H5.out.2,?_⟩;rw[He0.out];show RunS w5 M rv cv { x2 with r:=q2.br,wd:=q2.bw,next:=q2.bn,mo:=x.mo } { q2 with puts:=q2.bp,ahead:=false } (se2++[⟨4,0,0⟩]);rw[<-H.out.2.2.2.1];exact H5.out.1.fewer x1.mo (fun p hp=>List.mem_cons_of_mem _ hp)

theorem Jeu(a b c n:Int)(w:World)(M B:Nat)(rv cv:Value)(x x1:Ms)(q:Tl)(se1:List Se)(Good:World->Ms->Tl->List Se->Prop)(hB:B<=M)(hmo:x1.mo=x.mo)(hMw:M < w.heap.size)
  (hst:∀w1 w2 x2 q2 se2,Good w1 x2 q2 se2->Below M w1 w2->Good w2 x2 q2 se2) (hlen:∀w1 x2 q2 se2,Good w1 x2 q2 se2->se2.length<=200000)
  (hBg:Calls Tryz.prog 27 #[.pointer (some ⟨M,0,none⟩)] w fun e w'=>e=.returned (.agg #[V 5,V a,V b,V c,V n])/\RunS w' M rv cv x1 q se1/\Below M w w')
  (hA:Acts 69 5 a b c n w M B rv cv x1 q se1 Good):
  Calls Tryz.prog 31 #[.pointer (some ⟨M,0,none⟩)] w fun e w'=>e=.returned (.tuple #[])/\Below B w w'/\∃x2 q2 se2,Good w' x2 q2 se2/\RunS w' M rv cv { backX (endsS 5 x2 q2) x2 q2 with mo:=x.mo } (backQ (endsS 5 x2 q2) q2) (J1f (endsS 5 x2 q2) se2):=by
 suffices H0:∀P:Ending->World->Prop,(∀e w',(e=.returned (.tuple #[])/\Below B w w'/\∃x2 q2 se2,Good w' x2 q2 se2/\RunS w' M rv cv { backX (endsS 5 x2 q2) x2 q2 with mo:=x.mo } (backQ (endsS 5 x2 q2) q2) (J1f (endsS 5 x2 q2) se2))->P e w')->Calls Tryz.prog 31 #[.pointer (some ⟨M,0,none⟩)] w P from H0 _ (fun _ _ h=>h)
 intro P hP;have HP:=J01 hP;have H:=J01 (And.intro hst (And.intro hlen (And.intro hB (And.intro hmo hMw))));have HB:=J01 hBg;have HA:=J01 hA;clear hP hst hlen hB hmo hMw hBg hA;go_enter Tryz.func31,Tryz.ntmps31;go_wp2_with (fail)
 refine HB.out.mono ?_;rintro e w1 ⟨rfl,r1,b1⟩;have H1:=J01 (And.intro r1 b1);have hM1:=r1.lt;clear r1 b1 HB;have HA2:=J01 (HA.out.out _ _ (H1.out.1.beside (.cells #[V 5,V a,V b,V c,V n] 41)) ((J07 H1.out.2 (Nat.le_of_lt hM1) _)));clear HA;go_wp2_with (fail)
 refine HA2.out.mono ?_;rintro e w3 ⟨rfl,b3,x2,q2,se2,g3,r3⟩;have H3:=J01 (And.intro g3 (And.intro r3 b3));clear g3 r3 b3;have hb3:Below B w w3:=Below.trans (Below.mono ((J07 H1.out.2 (Nat.le_of_lt hM1) _)) H.out.2.2.1) H3.out.2.2;have HB3:=J01 hb3;have ca:=H3.out.2.1.ahead.1;have hbox:=H3.out.2.1.left (List.mem_cons_self);have z0:=J08 hbox 0 (V 5) (by simp);have z1:=J08 hbox 1 (V a) (by simp);have z2:=J08 hbox 2 (V b) (by simp);have z3:=J08 hbox 3 (V c) (by simp);have z4:=J08 hbox 4 (V n) (by simp);dsimp only at z0 z1 z2 z3 z4;clear hbox HA2 hb3;cases hah:q2.ahead with
 | false=>
  rw[hah]at ca;have Hah:=J01 hah;clear hah;go_wp2;go_end0;refine HP.out _ _ ⟨rfl,HB3.out,x2,q2,se2,H3.out.1,?_⟩;have e0:endsS 5 x2 q2=false:=by unfold endsS;rw[Hah.out];rfl
  rw[e0];show RunS w3 M rv cv { x2 with mo:=x.mo } q2 se2;rw[<-H.out.2.2.2.1];exact H3.out.2.1.fewer x1.mo (fun p hp=>List.mem_cons_of_mem _ hp)
 | true=>
  rw[hah]at ca;have Hah:=J01 hah;clear hah;have hE:=J1e 5 a b c n w3 M rv cv _ q2 se2 H3.out.2.1;dsimp only at hE;obtain⟨bb,hbb⟩:∃bb,decide ((5:Int)=12\/(5:Int)=9\/x2.steps=q2.til)=bb:=⟨_,rfl⟩;rw[hbb]at hE;have e0:endsS 5 x2 q2=bb:=by unfold endsS;rw[Hah.out,hbb];rfl
  have He0:=J01 e0;have HE:=J01 hE;clear hE e0 hbb;go_wp2_with (fail)
  refine HE.out.mono ?_;rintro e w4 ⟨rfl,m4⟩;have H4:=J01 (And.intro (H3.out.2.1.more m4) (And.intro (H.out.1 _ _ _ _ _ H3.out.1 (Below.mono m4 (Nat.le_of_lt H3.out.2.1.lt))) (J11 HB3.out (by have:=H3.out.2.1.lt;have:=H.out.2.2.1;omega) m4)));clear m4 HE;cases bb with
  | false=>
   go_wp2;go_end0;refine HP.out _ _ ⟨rfl,H4.out.2.2,x2,q2,se2,H4.out.2.1,?_⟩;rw[He0.out];show RunS w4 M rv cv { x2 with mo:=x.mo } q2 se2;rw[<-H.out.2.2.2.1];exact H4.out.1.fewer x1.mo (fun p hp=>List.mem_cons_of_mem _ hp)
  | true=>
   have HT:=J01 (J1c w4 M rv cv _ q2 se2 (H.out.2.1 _ _ _ _ H4.out.2.1) H4.out.1);go_wp2_with (fail)
   refine HT.out.mono ?_;rintro e w5 ⟨rfl,r5,b5⟩;have H5:=J01 (And.intro r5 b5);clear r5 b5 HT;go_wp2;go_end0;refine HP.out _ _ ⟨rfl,Below.trans H4.out.2.2 (Below.mono H5.out.2 H.out.2.2.1),x2,q2,se2,H.out.1 _ _ _ _ _ H4.out.2.1 H5.out.2,?_⟩;rw[He0.out];show RunS w5 M rv cv { x2 with r:=q2.br,wd:=q2.bw,next:=q2.bn,mo:=x.mo } { q2 with puts:=q2.bp,ahead:=false } (se2++[⟨4,0,0⟩]);rw[<-H.out.2.2.2.1];exact H5.out.1.fewer x1.mo (fun p hp=>List.mem_cons_of_mem _ hp)

theorem Jet(a b c n:Int)(w:World)(M B:Nat)(rv cv:Value)(x x1:Ms)(q:Tl)(se1:List Se)(Good:World->Ms->Tl->List Se->Prop)(hB:B<=M)(hmo:x1.mo=x.mo)(hMw:M < w.heap.size)
  (hst:∀w1 w2 x2 q2 se2,Good w1 x2 q2 se2->Below M w1 w2->Good w2 x2 q2 se2) (hlen:∀w1 x2 q2 se2,Good w1 x2 q2 se2->se2.length<=200000)
  (hBg:Calls Tryz.prog 27 #[.pointer (some ⟨M,0,none⟩)] w fun e w'=>e=.returned (.agg #[V 4,V a,V b,V c,V n])/\RunS w' M rv cv x1 q se1/\Below M w w')
  (hA:Acts 70 4 a b c n w M B rv cv x1 q se1 Good):
  Calls Tryz.prog 31 #[.pointer (some ⟨M,0,none⟩)] w fun e w'=>e=.returned (.tuple #[])/\Below B w w'/\∃x2 q2 se2,Good w' x2 q2 se2/\RunS w' M rv cv { backX (endsS 4 x2 q2) x2 q2 with mo:=x.mo } (backQ (endsS 4 x2 q2) q2) (J1f (endsS 4 x2 q2) se2):=by
 suffices H0:∀P:Ending->World->Prop,(∀e w',(e=.returned (.tuple #[])/\Below B w w'/\∃x2 q2 se2,Good w' x2 q2 se2/\RunS w' M rv cv { backX (endsS 4 x2 q2) x2 q2 with mo:=x.mo } (backQ (endsS 4 x2 q2) q2) (J1f (endsS 4 x2 q2) se2))->P e w')->Calls Tryz.prog 31 #[.pointer (some ⟨M,0,none⟩)] w P from H0 _ (fun _ _ h=>h)
 intro P hP;have HP:=J01 hP;have H:=J01 (And.intro hst (And.intro hlen (And.intro hB (And.intro hmo hMw))));have HB:=J01 hBg;have HA:=J01 hA;clear hP hst hlen hB hmo hMw hBg hA;go_enter Tryz.func31,Tryz.ntmps31;go_wp2_with (fail)
 refine HB.out.mono ?_;rintro e w1 ⟨rfl,r1,b1⟩;have H1:=J01 (And.intro r1 b1);have hM1:=r1.lt;clear r1 b1 HB;have HA2:=J01 (HA.out.out _ _ (H1.out.1.beside (.cells #[V 4,V a,V b,V c,V n] 41)) ((J07 H1.out.2 (Nat.le_of_lt hM1) _)));clear HA;go_wp2_with (fail)
 refine HA2.out.mono ?_;rintro e w3 ⟨rfl,b3,x2,q2,se2,g3,r3⟩;have H3:=J01 (And.intro g3 (And.intro r3 b3));clear g3 r3 b3;have hb3:Below B w w3:=Below.trans (Below.mono ((J07 H1.out.2 (Nat.le_of_lt hM1) _)) H.out.2.2.1) H3.out.2.2;have HB3:=J01 hb3;have ca:=H3.out.2.1.ahead.1;have hbox:=H3.out.2.1.left (List.mem_cons_self);have z0:=J08 hbox 0 (V 4) (by simp);have z1:=J08 hbox 1 (V a) (by simp);have z2:=J08 hbox 2 (V b) (by simp);have z3:=J08 hbox 3 (V c) (by simp);have z4:=J08 hbox 4 (V n) (by simp);dsimp only at z0 z1 z2 z3 z4;clear hbox HA2 hb3;cases hah:q2.ahead with
 | false=>
  rw[hah]at ca;have Hah:=J01 hah;clear hah;go_wp2;go_end0;refine HP.out _ _ ⟨rfl,HB3.out,x2,q2,se2,H3.out.1,?_⟩;have e0:endsS 4 x2 q2=false:=by unfold endsS;rw[Hah.out];rfl
  rw[e0];show RunS w3 M rv cv { x2 with mo:=x.mo } q2 se2;rw[<-H.out.2.2.2.1];exact H3.out.2.1.fewer x1.mo (fun p hp=>List.mem_cons_of_mem _ hp)
 | true=>
  rw[hah]at ca;have Hah:=J01 hah;clear hah;have hE:=J1e 4 a b c n w3 M rv cv _ q2 se2 H3.out.2.1;dsimp only at hE;obtain⟨bb,hbb⟩:∃bb,decide ((4:Int)=12\/(4:Int)=9\/x2.steps=q2.til)=bb:=⟨_,rfl⟩;rw[hbb]at hE;have e0:endsS 4 x2 q2=bb:=by unfold endsS;rw[Hah.out,hbb];rfl
  have He0:=J01 e0;have HE:=J01 hE;clear hE e0 hbb;go_wp2_with (fail)
  refine HE.out.mono ?_;rintro e w4 ⟨rfl,m4⟩;have H4:=J01 (And.intro (H3.out.2.1.more m4) (And.intro (H.out.1 _ _ _ _ _ H3.out.1 (Below.mono m4 (Nat.le_of_lt H3.out.2.1.lt))) (J11 HB3.out (by have:=H3.out.2.1.lt;have:=H.out.2.2.1;omega) m4)));clear m4 HE;cases bb with
  | false=>
   go_wp2;go_end0;refine HP.out _ _ ⟨rfl,H4.out.2.2,x2,q2,se2,H4.out.2.1,?_⟩;rw[He0.out];show RunS w4 M rv cv { x2 with mo:=x.mo } q2 se2;rw[<-H.out.2.2.2.1];exact H4.out.1.fewer x1.mo (fun p hp=>List.mem_cons_of_mem _ hp)
  | true=>
   have HT:=J01 (J1c w4 M rv cv _ q2 se2 (H.out.2.1 _ _ _ _ H4.out.2.1) H4.out.1);go_wp2_with (fail)
   refine HT.out.mono ?_;rintro e w5 ⟨rfl,r5,b5⟩;have H5:=J01 (And.intro r5 b5);clear r5 b5 HT;go_wp2;go_end0;refine HP.out _ _ ⟨rfl,Below.trans H4.out.2.2 (Below.mono H5.out.2 H.out.2.2.1),x2,q2,se2,H.out.1 _ _ _ _ _ H4.out.2.1 H5.out.2,?_⟩;rw[He0.out];show RunS w5 M rv cv { x2 with r:=q2.br,wd:=q2.bw,next:=q2.bn,mo:=x.mo } { q2 with puts:=q2.bp,ahead:=false } (se2++[⟨4,0,0⟩]);rw[<-H.out.2.2.2.1];exact H5.out.1.fewer x1.mo (fun p hp=>List.mem_cons_of_mem _ hp)

theorem Jev(a b c n:Int)(w:World)(M B:Nat)(rv cv:Value)(x x1:Ms)(q:Tl)(se1:List Se)(Good:World->Ms->Tl->List Se->Prop)(hB:B<=M)(hmo:x1.mo=x.mo)(hMw:M < w.heap.size)
  (hst:∀w1 w2 x2 q2 se2,Good w1 x2 q2 se2->Below M w1 w2->Good w2 x2 q2 se2) (hlen:∀w1 x2 q2 se2,Good w1 x2 q2 se2->se2.length<=200000)
  (hBg:Calls Tryz.prog 27 #[.pointer (some ⟨M,0,none⟩)] w fun e w'=>e=.returned (.agg #[V 6,V a,V b,V c,V n])/\RunS w' M rv cv x1 q se1/\Below M w w')
  (hA:Acts 70 6 a b c n w M B rv cv x1 q se1 Good):
  Calls Tryz.prog 31 #[.pointer (some ⟨M,0,none⟩)] w fun e w'=>e=.returned (.tuple #[])/\Below B w w'/\∃x2 q2 se2,Good w' x2 q2 se2/\RunS w' M rv cv { backX (endsS 6 x2 q2) x2 q2 with mo:=x.mo } (backQ (endsS 6 x2 q2) q2) (J1f (endsS 6 x2 q2) se2):=by
 suffices H0:∀P:Ending->World->Prop,(∀e w',(e=.returned (.tuple #[])/\Below B w w'/\∃x2 q2 se2,Good w' x2 q2 se2/\RunS w' M rv cv { backX (endsS 6 x2 q2) x2 q2 with mo:=x.mo } (backQ (endsS 6 x2 q2) q2) (J1f (endsS 6 x2 q2) se2))->P e w')->Calls Tryz.prog 31 #[.pointer (some ⟨M,0,none⟩)] w P from H0 _ (fun _ _ h=>h)
 intro P hP;have HP:=J01 hP;have H:=J01 (And.intro hst (And.intro hlen (And.intro hB (And.intro hmo hMw))));have HB:=J01 hBg;have HA:=J01 hA;clear hP hst hlen hB hmo hMw hBg hA;go_enter Tryz.func31,Tryz.ntmps31;go_wp2_with (fail)
 refine HB.out.mono ?_;rintro e w1 ⟨rfl,r1,b1⟩;have H1:=J01 (And.intro r1 b1);have hM1:=r1.lt;clear r1 b1 HB;have HA2:=J01 (HA.out.out _ _ (H1.out.1.beside (.cells #[V 6,V a,V b,V c,V n] 41)) ((J07 H1.out.2 (Nat.le_of_lt hM1) _)));clear HA;go_wp2_with (fail)
 refine HA2.out.mono ?_;rintro e w3 ⟨rfl,b3,x2,q2,se2,g3,r3⟩;have H3:=J01 (And.intro g3 (And.intro r3 b3));clear g3 r3 b3;have hb3:Below B w w3:=Below.trans (Below.mono ((J07 H1.out.2 (Nat.le_of_lt hM1) _)) H.out.2.2.1) H3.out.2.2;have HB3:=J01 hb3;have ca:=H3.out.2.1.ahead.1;have hbox:=H3.out.2.1.left (List.mem_cons_self);have z0:=J08 hbox 0 (V 6) (by simp);have z1:=J08 hbox 1 (V a) (by simp);have z2:=J08 hbox 2 (V b) (by simp);have z3:=J08 hbox 3 (V c) (by simp);have z4:=J08 hbox 4 (V n) (by simp);dsimp only at z0 z1 z2 z3 z4;clear hbox HA2 hb3;cases hah:q2.ahead with
 | false=>
  rw[hah]at ca;have Hah:=J01 hah;clear hah;go_wp2;go_end0;refine HP.out _ _ ⟨rfl,HB3.out,x2,q2,se2,H3.out.1,?_⟩;have e0:endsS 6 x2 q2=false:=by unfold endsS;rw[Hah.out];rfl
  rw[e0];show RunS w3 M rv cv { x2 with mo:=x.mo } q2 se2;rw[<-H.out.2.2.2.1];exact H3.out.2.1.fewer x1.mo (fun p hp=>List.mem_cons_of_mem _ hp)
 | true=>
  rw[hah]at ca;have Hah:=J01 hah;clear hah;have hE:=J1e 6 a b c n w3 M rv cv _ q2 se2 H3.out.2.1;dsimp only at hE;obtain⟨bb,hbb⟩:∃bb,decide ((6:Int)=12\/(6:Int)=9\/x2.steps=q2.til)=bb:=⟨_,rfl⟩;rw[hbb]at hE;have e0:endsS 6 x2 q2=bb:=by unfold endsS;rw[Hah.out,hbb];rfl
  have He0:=J01 e0;have HE:=J01 hE;clear hE e0 hbb;go_wp2_with (fail)
  refine HE.out.mono ?_;rintro e w4 ⟨rfl,m4⟩;have H4:=J01 (And.intro (H3.out.2.1.more m4) (And.intro (H.out.1 _ _ _ _ _ H3.out.1 (Below.mono m4 (Nat.le_of_lt H3.out.2.1.lt))) (J11 HB3.out (by have:=H3.out.2.1.lt;have:=H.out.2.2.1;omega) m4)));clear m4 HE;cases bb with
  | false=>
   go_wp2;go_end0;refine HP.out _ _ ⟨rfl,H4.out.2.2,x2,q2,se2,H4.out.2.1,?_⟩;rw[He0.out];show RunS w4 M rv cv { x2 with mo:=x.mo } q2 se2;rw[<-H.out.2.2.2.1];exact H4.out.1.fewer x1.mo (fun p hp=>List.mem_cons_of_mem _ hp)
  | true=>
   have HT:=J01 (J1c w4 M rv cv _ q2 se2 (H.out.2.1 _ _ _ _ H4.out.2.1) H4.out.1);go_wp2_with (fail)
   refine HT.out.mono ?_;rintro e w5 ⟨rfl,r5,b5⟩;have H5:=J01 (And.intro r5 b5);clear r5 b5 HT;go_wp2;go_end0;refine HP.out _ _ ⟨rfl,Below.trans H4.out.2.2 (Below.mono H5.out.2 H.out.2.2.1),x2,q2,se2,H.out.1 _ _ _ _ _ H4.out.2.1 H5.out.2,?_⟩;rw[He0.out];show RunS w5 M rv cv { x2 with r:=q2.br,wd:=q2.bw,next:=q2.bn,mo:=x.mo } { q2 with puts:=q2.bp,ahead:=false } (se2++[⟨4,0,0⟩]);rw[<-H.out.2.2.2.1];exact H5.out.1.fewer x1.mo (fun p hp=>List.mem_cons_of_mem _ hp)

theorem Jex(a b c n:Int)(w:World)(M B:Nat)(rv cv:Value)(x x1:Ms)(q:Tl)(se1:List Se)(Good:World->Ms->Tl->List Se->Prop)(hB:B<=M)(hmo:x1.mo=x.mo)(hMw:M < w.heap.size)
  (hst:∀w1 w2 x2 q2 se2,Good w1 x2 q2 se2->Below M w1 w2->Good w2 x2 q2 se2) (hlen:∀w1 x2 q2 se2,Good w1 x2 q2 se2->se2.length<=200000)
  (hBg:Calls Tryz.prog 27 #[.pointer (some ⟨M,0,none⟩)] w fun e w'=>e=.returned (.agg #[V 9,V a,V b,V c,V n])/\RunS w' M rv cv x1 q se1/\Below M w w')
  (hA:Acts 71 9 a b c n w M B rv cv x1 q se1 Good):
  Calls Tryz.prog 31 #[.pointer (some ⟨M,0,none⟩)] w fun e w'=>e=.returned (.tuple #[])/\Below B w w'/\∃x2 q2 se2,Good w' x2 q2 se2/\RunS w' M rv cv { backX (endsS 9 x2 q2) x2 q2 with mo:=x.mo } (backQ (endsS 9 x2 q2) q2) (J1f (endsS 9 x2 q2) se2):=by
 suffices H0:∀P:Ending->World->Prop,(∀e w',(e=.returned (.tuple #[])/\Below B w w'/\∃x2 q2 se2,Good w' x2 q2 se2/\RunS w' M rv cv { backX (endsS 9 x2 q2) x2 q2 with mo:=x.mo } (backQ (endsS 9 x2 q2) q2) (J1f (endsS 9 x2 q2) se2))->P e w')->Calls Tryz.prog 31 #[.pointer (some ⟨M,0,none⟩)] w P from H0 _ (fun _ _ h=>h)
 intro P hP;have HP:=J01 hP;have H:=J01 (And.intro hst (And.intro hlen (And.intro hB (And.intro hmo hMw))));have HB:=J01 hBg;have HA:=J01 hA;clear hP hst hlen hB hmo hMw hBg hA;go_enter Tryz.func31,Tryz.ntmps31;go_wp2_with (fail)
 refine HB.out.mono ?_;rintro e w1 ⟨rfl,r1,b1⟩;have H1:=J01 (And.intro r1 b1);have hM1:=r1.lt;clear r1 b1 HB;have HA2:=J01 (HA.out.out _ _ (H1.out.1.beside (.cells #[V 9,V a,V b,V c,V n] 41)) ((J07 H1.out.2 (Nat.le_of_lt hM1) _)));clear HA;go_wp2_with (fail)
 refine HA2.out.mono ?_;rintro e w3 ⟨rfl,b3,x2,q2,se2,g3,r3⟩;have H3:=J01 (And.intro g3 (And.intro r3 b3));clear g3 r3 b3;have hb3:Below B w w3:=Below.trans (Below.mono ((J07 H1.out.2 (Nat.le_of_lt hM1) _)) H.out.2.2.1) H3.out.2.2;have HB3:=J01 hb3;have ca:=H3.out.2.1.ahead.1;have hbox:=H3.out.2.1.left (List.mem_cons_self);have z0:=J08 hbox 0 (V 9) (by simp);have z1:=J08 hbox 1 (V a) (by simp);have z2:=J08 hbox 2 (V b) (by simp);have z3:=J08 hbox 3 (V c) (by simp);have z4:=J08 hbox 4 (V n) (by simp);dsimp only at z0 z1 z2 z3 z4;clear hbox HA2 hb3;cases hah:q2.ahead with
 | false=>
  rw[hah]at ca;have Hah:=J01 hah;clear hah;go_wp2;go_end0;refine HP.out _ _ ⟨rfl,HB3.out,x2,q2,se2,H3.out.1,?_⟩;have e0:endsS 9 x2 q2=false:=by unfold endsS;rw[Hah.out];rfl
  rw[e0];show RunS w3 M rv cv { x2 with mo:=x.mo } q2 se2;rw[<-H.out.2.2.2.1];exact H3.out.2.1.fewer x1.mo (fun p hp=>List.mem_cons_of_mem _ hp)
 | true=>
  rw[hah]at ca;have Hah:=J01 hah;clear hah;have hE:=J1e 9 a b c n w3 M rv cv _ q2 se2 H3.out.2.1;dsimp only at hE;obtain⟨bb,hbb⟩:∃bb,decide ((9:Int)=12\/(9:Int)=9\/x2.steps=q2.til)=bb:=⟨_,rfl⟩;rw[hbb]at hE;have e0:endsS 9 x2 q2=bb:=by unfold endsS;rw[Hah.out,hbb];rfl
  have He0:=J01 e0;have HE:=J01 hE;clear hE e0 hbb;go_wp2_with (fail)
  refine HE.out.mono ?_;rintro e w4 ⟨rfl,m4⟩;have H4:=J01 (And.intro (H3.out.2.1.more m4) (And.intro (H.out.1 _ _ _ _ _ H3.out.1 (Below.mono m4 (Nat.le_of_lt H3.out.2.1.lt))) (J11 HB3.out (by have:=H3.out.2.1.lt;have:=H.out.2.2.1;omega) m4)));clear m4 HE;cases bb with
  | false=>
   go_wp2;go_end0;refine HP.out _ _ ⟨rfl,H4.out.2.2,x2,q2,se2,H4.out.2.1,?_⟩;rw[He0.out];show RunS w4 M rv cv { x2 with mo:=x.mo } q2 se2;rw[<-H.out.2.2.2.1];exact H4.out.1.fewer x1.mo (fun p hp=>List.mem_cons_of_mem _ hp)
  | true=>
   have HT:=J01 (J1c w4 M rv cv _ q2 se2 (H.out.2.1 _ _ _ _ H4.out.2.1) H4.out.1);go_wp2_with (fail)
   refine HT.out.mono ?_;rintro e w5 ⟨rfl,r5,b5⟩;have H5:=J01 (And.intro r5 b5);clear r5 b5 HT;go_wp2;go_end0;refine HP.out _ _ ⟨rfl,Below.trans H4.out.2.2 (Below.mono H5.out.2 H.out.2.2.1),x2,q2,se2,H.out.1 _ _ _ _ _ H4.out.2.1 H5.out.2,?_⟩;rw[He0.out];show RunS w5 M rv cv { x2 with r:=q2.br,wd:=q2.bw,next:=q2.bn,mo:=x.mo } { q2 with puts:=q2.bp,ahead:=false } (se2++[⟨4,0,0⟩]);rw[<-H.out.2.2.2.1];exact H5.out.1.fewer x1.mo (fun p hp=>List.mem_cons_of_mem _ hp)
end
end Go.Proofs.YtephohhigbfafaaGreatDoor
