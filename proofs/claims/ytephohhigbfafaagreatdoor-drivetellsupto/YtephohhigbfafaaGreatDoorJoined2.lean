/-
  The texts CvWhere, DrAns, CelM, RowT, DvMem, LastM, StepEq, SemSpec, SpQuiet, CkSafe, CkQuiet, HdShape, HdPlain, Copy, Own, Inv, PAt, RPlace, HdMask, one behind the other, with what is used of them.
-/
import Derived.Test.YtephohhigbfafaaGreatDoorJoined1
import Derived.Test.YtephohhigbfafaaGreatDoorJoined0
import Derived.Deep.AppendLies
import Derived.Deep.OwnRows
import Derived.Laws.AppendOwn
import Derived.Test.YtephohhigbfafaaGreatDoorRows
import Derived.WalkKit
import Derived.Deep.LoopGhost
import Derived.OwnWalk
import Derived.Laws.OwnMore
import Derived.Laws.AppendOwnNone
import Derived.Test.YtephohhigbfafaaGreatDoorProg
namespace Go.Proofs.YtephohhigbfafaaGreatDoor
set_option maxHeartbeats 4000000
section
open Go.RowKit
set_option linter.unusedSimpArgs false
set_option linter.unusedVariables false
set_option maxRecDepth 8000
theorem J7d{G:Prop}{A:Prop}(h1:A->G)(h2:A):G:=h1 h2

section
variable {P:Program} {ops:Array Oper} {Q:Exit->Act->World->Prop} {S:World->Prop}
theorem Jg2(i j k:Nat){n:Nat}{listed:Array Bool}{a:Act}{w:World}(hB:(Region.ready .any ops listed==[i,j,k])=true)(h:J83 P ops Q S i n listed a w)(h2:J83 P ops Q S j n listed a w)(h3:J83 P ops Q S k n listed a w):OrdL P ops Q S (n+1) listed a w:=by
 refine⟨wpAnyH_all (by simpa using hB) (by simp) (fun x hx=>?_)⟩;have hx':x=i\/x=j\/x=k:=by simpa using hx
 rcases hx' with rfl | rfl | rfl
 ·exact h.out
 ·exact h2.out
 ·exact h3.out
theorem J0p{n:Nat}{listed listed':Array Bool}{a:Act}{w:World}(e:listed=listed')(h:OrdL P ops Q S n listed' a w):OrdL P ops Q S n listed a w:=e▸h

theorem J2m{rest:List Oper}{o:Oper}{a:Act}{w:World}(hgd:o.guard=none)(x y:Operand)(ho:o.op=.store 137 x y)(n j:Nat)(b:Int)(t:Bool)(hx:a.eval x=.pointer (some ⟨n,j*2,none⟩))(hy:a.eval y=.agg #[V b,.bool t])
  (hi:(P.info? 137).map (·.size)=some 2) (s:KS) (T:TypeId) (hb:Blk w n (kv s) T) (hj:j < 8)
  (w':World) (hw:w'=(w.setCell ⟨n,j*2,none⟩ (V b)).setCell ⟨n,j*2+1,none⟩ (.bool t)) (h:wpList P ops Q rest (a.put o.dst undef) w'):wpList P ops Q (o::rest) a w:=by
 subst hw;refine J3x hgd 137 x y ho n (j*2) #[V b,.bool t] hx hy hi (fun i hi=>?_) (by simp[Value.oneCell']) h;have hi':i < 2:=by simpa using hi
 refine⟨?_,hb.frozen _⟩;by_cases e:i=0
 ·subst e;rw[Nat.add_zero,hb.cell (kv_at s j hj).1];rfl
 ·obtain rfl:i=1:=by omega
  rw[hb.cell (kv_at s j hj).2];rfl
end
theorem Jb3:(Tryz.prog.info? 137).map (·.size)=some 2:=by kernel_rfl

def whK(c a b:Int)(s:KS):KS:=
 if c=1 then setK (setK s a (Kn.less (s a.toNat) (s b.toNat))) b (Kn.less (s b.toNat) (s a.toNat)) else if c=2 then s else if c=3 then setK s a (Kn.less (s a.toNat) (s b.toNat)) else setK s b (Kn.less (s b.toNat) (s a.toNat))

structure WhB(w:World)(s:KS)(g9 g10:Nat)(w':World):Prop where
 r:Blk w' w.heap.size (kv s) 139
 z:Blk w' (w.heap.size+1) (kv zeroK) 139
 b9:Blk w' g9 #[V 0,.bool false] 137
 b10:Blk w' g10 #[V 0,.bool false] 137
 up:More w w'
 lt9:w.heap.size+2<=g9
 lt10:w.heap.size+2<=g10
 ne:g9≠g10

theorem J98(s:KS)(c a b:Int)(w:World)(hc:c=1\/c=2\/c=3\/c=4)(ha0:0<=a)(ha1:a < 8)(hb0:0<=b)(hb1:b < 8):
  Calls Tryz.prog 106 #[.agg (kv s),V c,V a,V b] w fun e w'=>e=.returned (.agg (kv (whK c a b s)))/\More w w':=by
 suffices hP:∀P:Ending->World->Prop,(∀w',More w w'->P (.returned (.agg (kv (whK c a b s)))) w')->Calls Tryz.prog 106 #[.agg (kv s),V c,V a,V b] w P from hP _ (fun w' m=>⟨rfl,m⟩)
 intro P hP0;have HP:Hid (∀w',More w w'->P (.returned (.agg (kv (whK c a b s)))) w'):=hP0;clear hP0;have Hc:Hid (c=1\/c=2\/c=3\/c=4):=hc;clear hc;have ha8:a.toNat < 8:=by omega
 have hb8:b.toNat < 8:=by omega
 obtain⟨W,HW⟩:∃W:World,Hid (W=(w.alloc (.cells (kv s) 139)).alloc (.cells #[V 0,.bool false,V 0,.bool false,V 0,.bool false,V 0,.bool false,V 0,.bool false,V 0,.bool false,V 0,.bool false,V 0,.bool false] 139)):=⟨_,rfl⟩
 have HB:Hid (Blk W w.heap.size (kv s) 139/\Blk W (w.heap.size+1) (kv zeroK) 139/\More w W/\W.heap.size=w.heap.size+2):=by
  rw[HW.out];refine⟨(Blk.last _ _ _).alloc _ _,?_,((More.refl _).alloc _ _).alloc _ _,by simp⟩;rw[J3n];exact(by simpa using Blk.last (w.alloc (.cells (kv s) 139)) #[V 0,.bool false,V 0,.bool false,V 0,.bool false,V 0,.bool false,V 0,.bool false,V 0,.bool false,V 0,.bool false,V 0,.bool false] 139)
 obtain⟨S,HS⟩:∃S:World->Prop,Hid (∀w',S w'↔Blk w' w.heap.size (kv s) 139):=⟨_,fun _=>Iff.rfl⟩;have HSm:Hid (∀w',More W w'->S w'):=fun w' m=>(HS.out _).2 (HB.out.1.more m)
 obtain⟨xa,hxa⟩:∃x,s a.toNat=x:=⟨_,rfl⟩;obtain⟨xb,hxb⟩:∃x,s b.toNat=x:=⟨_,rfl⟩;have k1:∀i:{ w' // S w' },i.val.cell? ⟨w.heap.size,a.toNat*2,none⟩=some (V xa.b):=fun i=>by rw[((HS.out _).1 i.property).cell (kv_at _ _ ha8).1,hxa]
 have k2:∀i:{ w' // S w' },i.val.cell? ⟨w.heap.size,a.toNat*2+1,none⟩=some (.bool xa.s):=fun i=>by rw[((HS.out _).1 i.property).cell (kv_at _ _ ha8).2,hxa]
 have k3:∀i:{ w' // S w' },i.val.cell? ⟨w.heap.size,b.toNat*2,none⟩=some (V xb.b):=fun i=>by rw[((HS.out _).1 i.property).cell (kv_at _ _ hb8).1,hxb]
 have k4:∀i:{ w' // S w' },i.val.cell? ⟨w.heap.size,b.toNat*2+1,none⟩=some (.bool xb.s):=fun i=>by rw[((HS.out _).1 i.property).cell (kv_at _ _ hb8).2,hxb]
 obtain⟨la,hla⟩:∃v,Kn.less xa xb=v:=⟨_,rfl⟩;obtain⟨lb,hlb⟩:∃v,Kn.less xb xa=v:=⟨_,rfl⟩;have c1:∀w:World,Calls Tryz.prog 129 #[kn xa.b xa.s,kn xb.b xb.s] w fun e w'=>e=.returned (kn la.b la.s)/\More w w':=fun w=>hla▸J6x xa.b xb.b xa.s xb.s w
 have c2:∀w:World,Calls Tryz.prog 129 #[kn xb.b xb.s,kn xa.b xa.s] w fun e w'=>e=.returned (kn lb.b lb.s)/\More w w':=fun w=>hlb▸J6x xb.b xa.b xb.s xa.s w
 have HK:Hid (whK c a b s=if c=1 then setK (setK s a la) b lb else if c=2 then s else if c=3 then setK s a la else setK s b lb):=by
  show _=_;unfold whK;rw[hxa,hxb,hla,hlb]
 clear hxa hxb hla hlb;obtain⟨xab,xas⟩:=xa;obtain⟨xbb,xbs⟩:=xb;obtain⟨lab,las⟩:=la;obtain⟨lbb,lbs⟩:=lb;unfold kn at c1 c2;dsimp only at k1 k2 k3 k4 c1 c2;obtain⟨cs,hcs⟩:∃c,kv s=c:=⟨_,rfl⟩;have hcs16:cs.size=16:=hcs▸J0d s;have Hcs:Hid (kv s=cs):=hcs;rw[hcs]at HW;rw[hcs];clear hcs;have HS0:S W.drew:=HSm.out _ (More.refl _).drew;have hne:Nonempty { w' // S w' }:=⟨⟨_,HS0⟩⟩;go_enter Tryz.func106,Tryz.ntmps106;go_wp2_with (fail)
 rw[<-HW.out];clear hcs16;refine J10 (S:=S) (by kernel_rfl) HS0 ?_;refine J05 0 rfl (by kernel_rfl) HS0 (by kernel_rfl) (fun K hK=>?_);go_simp;refine hK _ _ ?_;clear hK K;refine J05 1 rfl (by kernel_rfl) HS0 (by kernel_rfl) (fun K hK=>?_);go_simp;refine hK _ _ ?_;clear hK K;refine J05 2 rfl (by kernel_rfl) HS0 (by kernel_rfl) (fun K hK=>?_);go_simp;refine hK _ _ ?_;clear hK K;refine J05 3 rfl (by kernel_rfl) HS0 (by kernel_rfl) (fun K hK=>?_);go_simp;refine hK _ _ ?_;clear hK K;refine J05 4 rfl (by kernel_rfl) HS0 (by kernel_rfl) (fun K hK=>?_);go_simp;refine hK _ _ ?_;clear hK K;refine J05 5 rfl (by kernel_rfl) HS0 (by kernel_rfl) (fun K hK=>?_);go_simp;refine hK _ _ ?_;clear hK K;refine J05 7 rfl (by kernel_rfl) HS0 (by kernel_rfl) (fun K hK=>?_);go_simp;refine hK _ _ ?_;clear hK K;refine J05 8 rfl (by kernel_rfl) HS0 (by kernel_rfl) (fun K hK=>?_);go_simp;refine hK _ _ ?_;clear hK K;refine J05 9 rfl (by kernel_rfl) HS0 (by kernel_rfl) (fun K hK=>?_);go_simp;refine hK _ _ ?_;clear hK K;refine J05 10 rfl (by kernel_rfl) HS0 (by kernel_rfl) (fun K hK=>?_);go_simp;refine hK _ _ ?_;clear hK K;refine J05 11 rfl (by kernel_rfl) HS0 (by kernel_rfl) (fun K hK=>?_);go_simp;refine hK _ _ ?_;clear hK K;refine J05 12 rfl (by kernel_rfl) HS0 (by kernel_rfl) (fun K hK=>?_);go_simp;refine hK _ _ ?_;clear hK K;obtain⟨wd,Hwd⟩:∃wd:World,Hid (wd=W.drew):=⟨_,rfl⟩
 have Hm_:Hid (More W wd):=Hwd.out▸(More.refl W).drew
 have Hsz:Hid (w.heap.size+2<=wd.heap.size):=by
  have h1:=HB.out.2.2.2;have h2:=Hm_.out.size;show _<=_;omega
 rw[<-Hwd.out];clear k1 k2 k3 k4;apply J7d
 ·intro key
  refine Jg2 6 14 15 (by kernel_rfl) ?_ ?_ ?_
  ·refine J0b rfl (by kernel_rfl) (fun K hK=>?_);go_simp
   refine(c1 _).mono ?_;rintro e w1 ⟨rfl,m_⟩;have Hmw1:Hid (More W w1):=Hm_.out.trans m_;clear m_
   go_simp
   refine hK _ _ (HSm.out _ Hmw1.out) ?_;clear hK K;refine Jg2 13 14 15 (by kernel_rfl) ?_ ?_ ?_
   ·refine J0b rfl (by kernel_rfl) (fun K hK=>?_);go_simp
    refine(c2 _).mono ?_;rintro e w2 ⟨rfl,m_⟩;have Hmw2:Hid (More W w2):=Hmw1.out.trans m_;clear m_
    go_simp
    refine hK _ _ (HSm.out _ Hmw2.out) ?_;clear hK K;refine J2x 14 15 (by kernel_rfl) ?_ ?_
    ·refine J0b rfl (by kernel_rfl) (fun K hK=>?_);go_simp
     obtain⟨w3,Hw_⟩:∃w_:World,Hid (w_=w2.alloc (.cells #[V 0,.bool false] 137)):=⟨_,rfl⟩;have m_:More w2 w3:=Hw_.out▸(More.refl _).alloc _ _;have Hmw3:Hid (More W w3):=Hmw2.out.trans m_;have Hb9w3:Hid (Blk w3 w2.heap.size #[V 0,.bool false] 137):=Hw_.out▸Blk.last _ _ _;have Hl9:Hid (w.heap.size+2<=w2.heap.size):=Nat.le_trans Hsz.out (by have h1:=Hmw2.out.size;have h2:=HB.out.2.2.2;have h3:=Hm_.out.size;have h4:=Hwd.out;rw[h4];simpa using h1);rw[<-Hw_.out];clear m_ Hw_;refine hK _ _ (HSm.out _ Hmw3.out) ?_;clear hK K;refine J0k 15 (by kernel_rfl) ?_
     ·refine J0b rfl (by kernel_rfl) (fun K hK=>?_);go_simp
      obtain⟨w4,Hw_⟩:∃w_:World,Hid (w_=w3.alloc (.cells #[V 0,.bool false] 137)):=⟨_,rfl⟩;have m_:More w3 w4:=Hw_.out▸(More.refl _).alloc _ _;have Hmw4:Hid (More W w4):=Hmw3.out.trans m_;have Hb10w4:Hid (Blk w4 w3.heap.size #[V 0,.bool false] 137):=Hw_.out▸Blk.last _ _ _;have Hl10:Hid (w.heap.size+2<=w3.heap.size):=Nat.le_trans Hsz.out (by have h1:=Hmw3.out.size;have h2:=HB.out.2.2.2;have h3:=Hm_.out.size;have h4:=Hwd.out;rw[h4];simpa using h1);have Hb9w4:Hid (Blk w4 (w2.heap.size) #[V 0,.bool false] 137):=Hb9w3.out.more m_;have Hne:Hid (w2.heap.size≠w3.heap.size):=Nat.ne_of_lt Hb9w3.out.lt;rw[<-Hw_.out];clear m_ Hw_;refine hK _ _ (HSm.out _ Hmw4.out) ?_;clear hK K;have F:Hid (WhB w s (w2.heap.size) (w3.heap.size) w4):=⟨HB.out.1.more Hmw4.out,HB.out.2.1.more Hmw4.out,Hb9w4.out,Hb10w4.out,HB.out.2.2.1.trans Hmw4.out,Hl9.out,Hl10.out,Hne.out⟩;refine J0p (listed':=#[true,true,true,true,true,true,true,true,true,true,true,true,true,true,true,true,false,false]) (by kernel_rfl) ?_;clear Hl9 Hl10 Hne Hb9w4 Hb10w4;generalize w3.heap.size=g10 at F |-;generalize w2.heap.size=g9 at F |-;clear Hmw4
      revert w4 g10 g9
      exact key
    ·refine J0b rfl (by kernel_rfl) (fun K hK=>?_);go_simp
     obtain⟨w5,Hw_⟩:∃w_:World,Hid (w_=w2.alloc (.cells #[V 0,.bool false] 137)):=⟨_,rfl⟩;have m_:More w2 w5:=Hw_.out▸(More.refl _).alloc _ _;have Hmw5:Hid (More W w5):=Hmw2.out.trans m_;have Hb10w5:Hid (Blk w5 w2.heap.size #[V 0,.bool false] 137):=Hw_.out▸Blk.last _ _ _;have Hl10:Hid (w.heap.size+2<=w2.heap.size):=Nat.le_trans Hsz.out (by have h1:=Hmw2.out.size;have h2:=HB.out.2.2.2;have h3:=Hm_.out.size;have h4:=Hwd.out;rw[h4];simpa using h1);rw[<-Hw_.out];clear m_ Hw_;refine hK _ _ (HSm.out _ Hmw5.out) ?_;clear hK K;refine J0k 14 (by kernel_rfl) ?_
     ·refine J0b rfl (by kernel_rfl) (fun K hK=>?_);go_simp
      obtain⟨w6,Hw_⟩:∃w_:World,Hid (w_=w5.alloc (.cells #[V 0,.bool false] 137)):=⟨_,rfl⟩;have m_:More w5 w6:=Hw_.out▸(More.refl _).alloc _ _;have Hmw6:Hid (More W w6):=Hmw5.out.trans m_;have Hb9w6:Hid (Blk w6 w5.heap.size #[V 0,.bool false] 137):=Hw_.out▸Blk.last _ _ _;have Hl9:Hid (w.heap.size+2<=w5.heap.size):=Nat.le_trans Hsz.out (by have h1:=Hmw5.out.size;have h2:=HB.out.2.2.2;have h3:=Hm_.out.size;have h4:=Hwd.out;rw[h4];simpa using h1);have Hb10w6:Hid (Blk w6 (w2.heap.size) #[V 0,.bool false] 137):=Hb10w5.out.more m_;have Hne:Hid (w5.heap.size≠w2.heap.size):=Nat.ne_of_gt Hb10w5.out.lt;rw[<-Hw_.out];clear m_ Hw_;refine hK _ _ (HSm.out _ Hmw6.out) ?_;clear hK K;have F:Hid (WhB w s (w5.heap.size) (w2.heap.size) w6):=⟨HB.out.1.more Hmw6.out,HB.out.2.1.more Hmw6.out,Hb9w6.out,Hb10w6.out,HB.out.2.2.1.trans Hmw6.out,Hl9.out,Hl10.out,Hne.out⟩;refine J0p (listed':=#[true,true,true,true,true,true,true,true,true,true,true,true,true,true,true,true,false,false]) (by kernel_rfl) ?_;exact key _ _ _ F
   ·refine J0b rfl (by kernel_rfl) (fun K hK=>?_);go_simp
    obtain⟨w7,Hw_⟩:∃w_:World,Hid (w_=w1.alloc (.cells #[V 0,.bool false] 137)):=⟨_,rfl⟩;have m_:More w1 w7:=Hw_.out▸(More.refl _).alloc _ _;have Hmw7:Hid (More W w7):=Hmw1.out.trans m_;have Hb9w7:Hid (Blk w7 w1.heap.size #[V 0,.bool false] 137):=Hw_.out▸Blk.last _ _ _;have Hl9:Hid (w.heap.size+2<=w1.heap.size):=Nat.le_trans Hsz.out (by have h1:=Hmw1.out.size;have h2:=HB.out.2.2.2;have h3:=Hm_.out.size;have h4:=Hwd.out;rw[h4];simpa using h1);rw[<-Hw_.out];clear m_ Hw_;refine hK _ _ (HSm.out _ Hmw7.out) ?_;clear hK K;refine J2x 13 15 (by kernel_rfl) ?_ ?_
    ·refine J0b rfl (by kernel_rfl) (fun K hK=>?_);go_simp
     refine(c2 _).mono ?_;rintro e w8 ⟨rfl,m_⟩;have Hmw8:Hid (More W w8):=Hmw7.out.trans m_;have Hb9w8:Hid (Blk w8 (w1.heap.size) #[V 0,.bool false] 137):=Hb9w7.out.more m_;clear m_
     go_simp
     refine hK _ _ (HSm.out _ Hmw8.out) ?_;clear hK K;refine J0k 15 (by kernel_rfl) ?_
     ·refine J0b rfl (by kernel_rfl) (fun K hK=>?_);go_simp
      obtain⟨w9,Hw_⟩:∃w_:World,Hid (w_=w8.alloc (.cells #[V 0,.bool false] 137)):=⟨_,rfl⟩;have m_:More w8 w9:=Hw_.out▸(More.refl _).alloc _ _;have Hmw9:Hid (More W w9):=Hmw8.out.trans m_;have Hb10w9:Hid (Blk w9 w8.heap.size #[V 0,.bool false] 137):=Hw_.out▸Blk.last _ _ _;have Hl10:Hid (w.heap.size+2<=w8.heap.size):=Nat.le_trans Hsz.out (by have h1:=Hmw8.out.size;have h2:=HB.out.2.2.2;have h3:=Hm_.out.size;have h4:=Hwd.out;rw[h4];simpa using h1);have Hb9w9:Hid (Blk w9 (w1.heap.size) #[V 0,.bool false] 137):=Hb9w8.out.more m_;have Hne:Hid (w1.heap.size≠w8.heap.size):=Nat.ne_of_lt Hb9w8.out.lt;rw[<-Hw_.out];clear m_ Hw_;refine hK _ _ (HSm.out _ Hmw9.out) ?_;clear hK K;have F:Hid (WhB w s (w1.heap.size) (w8.heap.size) w9):=⟨HB.out.1.more Hmw9.out,HB.out.2.1.more Hmw9.out,Hb9w9.out,Hb10w9.out,HB.out.2.2.1.trans Hmw9.out,Hl9.out,Hl10.out,Hne.out⟩;refine J0p (listed':=#[true,true,true,true,true,true,true,true,true,true,true,true,true,true,true,true,false,false]) (by kernel_rfl) ?_;exact key _ _ _ F
    ·refine J0b rfl (by kernel_rfl) (fun K hK=>?_);go_simp
     obtain⟨w10,Hw_⟩:∃w_:World,Hid (w_=w7.alloc (.cells #[V 0,.bool false] 137)):=⟨_,rfl⟩;have m_:More w7 w10:=Hw_.out▸(More.refl _).alloc _ _;have Hmw10:Hid (More W w10):=Hmw7.out.trans m_;have Hb10w10:Hid (Blk w10 w7.heap.size #[V 0,.bool false] 137):=Hw_.out▸Blk.last _ _ _;have Hl10:Hid (w.heap.size+2<=w7.heap.size):=Nat.le_trans Hsz.out (by have h1:=Hmw7.out.size;have h2:=HB.out.2.2.2;have h3:=Hm_.out.size;have h4:=Hwd.out;rw[h4];simpa using h1);have Hb9w10:Hid (Blk w10 (w1.heap.size) #[V 0,.bool false] 137):=Hb9w7.out.more m_;have Hne:Hid (w1.heap.size≠w7.heap.size):=Nat.ne_of_lt Hb9w7.out.lt;rw[<-Hw_.out];clear m_ Hw_;refine hK _ _ (HSm.out _ Hmw10.out) ?_;clear hK K;refine J0k 13 (by kernel_rfl) ?_
     ·refine J0b rfl (by kernel_rfl) (fun K hK=>?_);go_simp
      refine(c2 _).mono ?_;rintro e w11 ⟨rfl,m_⟩;have Hmw11:Hid (More W w11):=Hmw10.out.trans m_;have Hb9w11:Hid (Blk w11 (w1.heap.size) #[V 0,.bool false] 137):=Hb9w10.out.more m_;have Hb10w11:Hid (Blk w11 (w7.heap.size) #[V 0,.bool false] 137):=Hb10w10.out.more m_;clear m_
      go_simp
      refine hK _ _ (HSm.out _ Hmw11.out) ?_;clear hK K;have F:Hid (WhB w s (w1.heap.size) (w7.heap.size) w11):=⟨HB.out.1.more Hmw11.out,HB.out.2.1.more Hmw11.out,Hb9w11.out,Hb10w11.out,HB.out.2.2.1.trans Hmw11.out,Hl9.out,Hl10.out,Hne.out⟩;refine J0p (listed':=#[true,true,true,true,true,true,true,true,true,true,true,true,true,true,true,true,false,false]) (by kernel_rfl) ?_;exact key _ _ _ F
   ·refine J0b rfl (by kernel_rfl) (fun K hK=>?_);go_simp
    obtain⟨w12,Hw_⟩:∃w_:World,Hid (w_=w1.alloc (.cells #[V 0,.bool false] 137)):=⟨_,rfl⟩;have m_:More w1 w12:=Hw_.out▸(More.refl _).alloc _ _;have Hmw12:Hid (More W w12):=Hmw1.out.trans m_;have Hb10w12:Hid (Blk w12 w1.heap.size #[V 0,.bool false] 137):=Hw_.out▸Blk.last _ _ _;have Hl10:Hid (w.heap.size+2<=w1.heap.size):=Nat.le_trans Hsz.out (by have h1:=Hmw1.out.size;have h2:=HB.out.2.2.2;have h3:=Hm_.out.size;have h4:=Hwd.out;rw[h4];simpa using h1);rw[<-Hw_.out];clear m_ Hw_;refine hK _ _ (HSm.out _ Hmw12.out) ?_;clear hK K;refine J2x 13 14 (by kernel_rfl) ?_ ?_
    ·refine J0b rfl (by kernel_rfl) (fun K hK=>?_);go_simp
     refine(c2 _).mono ?_;rintro e w13 ⟨rfl,m_⟩;have Hmw13:Hid (More W w13):=Hmw12.out.trans m_;have Hb10w13:Hid (Blk w13 (w1.heap.size) #[V 0,.bool false] 137):=Hb10w12.out.more m_;clear m_
     go_simp
     refine hK _ _ (HSm.out _ Hmw13.out) ?_;clear hK K;refine J0k 14 (by kernel_rfl) ?_
     ·refine J0b rfl (by kernel_rfl) (fun K hK=>?_);go_simp
      obtain⟨w14,Hw_⟩:∃w_:World,Hid (w_=w13.alloc (.cells #[V 0,.bool false] 137)):=⟨_,rfl⟩;have m_:More w13 w14:=Hw_.out▸(More.refl _).alloc _ _;have Hmw14:Hid (More W w14):=Hmw13.out.trans m_;have Hb9w14:Hid (Blk w14 w13.heap.size #[V 0,.bool false] 137):=Hw_.out▸Blk.last _ _ _;have Hl9:Hid (w.heap.size+2<=w13.heap.size):=Nat.le_trans Hsz.out (by have h1:=Hmw13.out.size;have h2:=HB.out.2.2.2;have h3:=Hm_.out.size;have h4:=Hwd.out;rw[h4];simpa using h1);have Hb10w14:Hid (Blk w14 (w1.heap.size) #[V 0,.bool false] 137):=Hb10w13.out.more m_;have Hne:Hid (w13.heap.size≠w1.heap.size):=Nat.ne_of_gt Hb10w13.out.lt;rw[<-Hw_.out];clear m_ Hw_;refine hK _ _ (HSm.out _ Hmw14.out) ?_;clear hK K;have F:Hid (WhB w s (w13.heap.size) (w1.heap.size) w14):=⟨HB.out.1.more Hmw14.out,HB.out.2.1.more Hmw14.out,Hb9w14.out,Hb10w14.out,HB.out.2.2.1.trans Hmw14.out,Hl9.out,Hl10.out,Hne.out⟩;refine J0p (listed':=#[true,true,true,true,true,true,true,true,true,true,true,true,true,true,true,true,false,false]) (by kernel_rfl) ?_;exact key _ _ _ F
    ·refine J0b rfl (by kernel_rfl) (fun K hK=>?_);go_simp
     obtain⟨w15,Hw_⟩:∃w_:World,Hid (w_=w12.alloc (.cells #[V 0,.bool false] 137)):=⟨_,rfl⟩;have m_:More w12 w15:=Hw_.out▸(More.refl _).alloc _ _;have Hmw15:Hid (More W w15):=Hmw12.out.trans m_;have Hb9w15:Hid (Blk w15 w12.heap.size #[V 0,.bool false] 137):=Hw_.out▸Blk.last _ _ _;have Hl9:Hid (w.heap.size+2<=w12.heap.size):=Nat.le_trans Hsz.out (by have h1:=Hmw12.out.size;have h2:=HB.out.2.2.2;have h3:=Hm_.out.size;have h4:=Hwd.out;rw[h4];simpa using h1);have Hb10w15:Hid (Blk w15 (w1.heap.size) #[V 0,.bool false] 137):=Hb10w12.out.more m_;have Hne:Hid (w12.heap.size≠w1.heap.size):=Nat.ne_of_gt Hb10w12.out.lt;rw[<-Hw_.out];clear m_ Hw_;refine hK _ _ (HSm.out _ Hmw15.out) ?_;clear hK K;refine J0k 13 (by kernel_rfl) ?_
     ·refine J0b rfl (by kernel_rfl) (fun K hK=>?_);go_simp
      refine(c2 _).mono ?_;rintro e w16 ⟨rfl,m_⟩;have Hmw16:Hid (More W w16):=Hmw15.out.trans m_;have Hb9w16:Hid (Blk w16 (w12.heap.size) #[V 0,.bool false] 137):=Hb9w15.out.more m_;have Hb10w16:Hid (Blk w16 (w1.heap.size) #[V 0,.bool false] 137):=Hb10w15.out.more m_;clear m_
      go_simp
      refine hK _ _ (HSm.out _ Hmw16.out) ?_;clear hK K;have F:Hid (WhB w s (w12.heap.size) (w1.heap.size) w16):=⟨HB.out.1.more Hmw16.out,HB.out.2.1.more Hmw16.out,Hb9w16.out,Hb10w16.out,HB.out.2.2.1.trans Hmw16.out,Hl9.out,Hl10.out,Hne.out⟩;refine J0p (listed':=#[true,true,true,true,true,true,true,true,true,true,true,true,true,true,true,true,false,false]) (by kernel_rfl) ?_;exact key _ _ _ F
  ·refine J0b rfl (by kernel_rfl) (fun K hK=>?_);go_simp
   obtain⟨w17,Hw_⟩:∃w_:World,Hid (w_=wd.alloc (.cells #[V 0,.bool false] 137)):=⟨_,rfl⟩;have m_:More wd w17:=Hw_.out▸(More.refl _).alloc _ _;have Hmw17:Hid (More W w17):=Hm_.out.trans m_;have Hb9w17:Hid (Blk w17 wd.heap.size #[V 0,.bool false] 137):=Hw_.out▸Blk.last _ _ _;have Hl9:Hid (w.heap.size+2<=wd.heap.size):=Nat.le_trans Hsz.out (Nat.le_refl _);rw[<-Hw_.out];clear m_ Hw_;refine hK _ _ (HSm.out _ Hmw17.out) ?_;clear hK K;refine J2x 6 15 (by kernel_rfl) ?_ ?_
   ·refine J0b rfl (by kernel_rfl) (fun K hK=>?_);go_simp
    refine(c1 _).mono ?_;rintro e w18 ⟨rfl,m_⟩;have Hmw18:Hid (More W w18):=Hmw17.out.trans m_;have Hb9w18:Hid (Blk w18 (wd.heap.size) #[V 0,.bool false] 137):=Hb9w17.out.more m_;clear m_
    go_simp
    refine hK _ _ (HSm.out _ Hmw18.out) ?_;clear hK K;refine J2x 13 15 (by kernel_rfl) ?_ ?_
    ·refine J0b rfl (by kernel_rfl) (fun K hK=>?_);go_simp
     refine(c2 _).mono ?_;rintro e w19 ⟨rfl,m_⟩;have Hmw19:Hid (More W w19):=Hmw18.out.trans m_;have Hb9w19:Hid (Blk w19 (wd.heap.size) #[V 0,.bool false] 137):=Hb9w18.out.more m_;clear m_
     go_simp
     refine hK _ _ (HSm.out _ Hmw19.out) ?_;clear hK K;refine J0k 15 (by kernel_rfl) ?_
     ·refine J0b rfl (by kernel_rfl) (fun K hK=>?_);go_simp
      obtain⟨w20,Hw_⟩:∃w_:World,Hid (w_=w19.alloc (.cells #[V 0,.bool false] 137)):=⟨_,rfl⟩;have m_:More w19 w20:=Hw_.out▸(More.refl _).alloc _ _;have Hmw20:Hid (More W w20):=Hmw19.out.trans m_;have Hb10w20:Hid (Blk w20 w19.heap.size #[V 0,.bool false] 137):=Hw_.out▸Blk.last _ _ _;have Hl10:Hid (w.heap.size+2<=w19.heap.size):=Nat.le_trans Hsz.out (by have h1:=Hmw19.out.size;have h2:=HB.out.2.2.2;have h3:=Hm_.out.size;have h4:=Hwd.out;rw[h4];simpa using h1);have Hb9w20:Hid (Blk w20 (wd.heap.size) #[V 0,.bool false] 137):=Hb9w19.out.more m_;have Hne:Hid (wd.heap.size≠w19.heap.size):=Nat.ne_of_lt Hb9w19.out.lt;rw[<-Hw_.out];clear m_ Hw_;refine hK _ _ (HSm.out _ Hmw20.out) ?_;clear hK K;have F:Hid (WhB w s (wd.heap.size) (w19.heap.size) w20):=⟨HB.out.1.more Hmw20.out,HB.out.2.1.more Hmw20.out,Hb9w20.out,Hb10w20.out,HB.out.2.2.1.trans Hmw20.out,Hl9.out,Hl10.out,Hne.out⟩;refine J0p (listed':=#[true,true,true,true,true,true,true,true,true,true,true,true,true,true,true,true,false,false]) (by kernel_rfl) ?_;exact key _ _ _ F
    ·refine J0b rfl (by kernel_rfl) (fun K hK=>?_);go_simp
     obtain⟨w21,Hw_⟩:∃w_:World,Hid (w_=w18.alloc (.cells #[V 0,.bool false] 137)):=⟨_,rfl⟩;have m_:More w18 w21:=Hw_.out▸(More.refl _).alloc _ _;have Hmw21:Hid (More W w21):=Hmw18.out.trans m_;have Hb10w21:Hid (Blk w21 w18.heap.size #[V 0,.bool false] 137):=Hw_.out▸Blk.last _ _ _;have Hl10:Hid (w.heap.size+2<=w18.heap.size):=Nat.le_trans Hsz.out (by have h1:=Hmw18.out.size;have h2:=HB.out.2.2.2;have h3:=Hm_.out.size;have h4:=Hwd.out;rw[h4];simpa using h1);have Hb9w21:Hid (Blk w21 (wd.heap.size) #[V 0,.bool false] 137):=Hb9w18.out.more m_;have Hne:Hid (wd.heap.size≠w18.heap.size):=Nat.ne_of_lt Hb9w18.out.lt;rw[<-Hw_.out];clear m_ Hw_;refine hK _ _ (HSm.out _ Hmw21.out) ?_;clear hK K;refine J0k 13 (by kernel_rfl) ?_
     ·refine J0b rfl (by kernel_rfl) (fun K hK=>?_);go_simp
      refine(c2 _).mono ?_;rintro e w22 ⟨rfl,m_⟩;have Hmw22:Hid (More W w22):=Hmw21.out.trans m_;have Hb9w22:Hid (Blk w22 (wd.heap.size) #[V 0,.bool false] 137):=Hb9w21.out.more m_;have Hb10w22:Hid (Blk w22 (w18.heap.size) #[V 0,.bool false] 137):=Hb10w21.out.more m_;clear m_
      go_simp
      refine hK _ _ (HSm.out _ Hmw22.out) ?_;clear hK K;have F:Hid (WhB w s (wd.heap.size) (w18.heap.size) w22):=⟨HB.out.1.more Hmw22.out,HB.out.2.1.more Hmw22.out,Hb9w22.out,Hb10w22.out,HB.out.2.2.1.trans Hmw22.out,Hl9.out,Hl10.out,Hne.out⟩;refine J0p (listed':=#[true,true,true,true,true,true,true,true,true,true,true,true,true,true,true,true,false,false]) (by kernel_rfl) ?_;exact key _ _ _ F
   ·refine J0b rfl (by kernel_rfl) (fun K hK=>?_);go_simp
    obtain⟨w23,Hw_⟩:∃w_:World,Hid (w_=w17.alloc (.cells #[V 0,.bool false] 137)):=⟨_,rfl⟩;have m_:More w17 w23:=Hw_.out▸(More.refl _).alloc _ _;have Hmw23:Hid (More W w23):=Hmw17.out.trans m_;have Hb10w23:Hid (Blk w23 w17.heap.size #[V 0,.bool false] 137):=Hw_.out▸Blk.last _ _ _;have Hl10:Hid (w.heap.size+2<=w17.heap.size):=Nat.le_trans Hsz.out (by have h1:=Hmw17.out.size;have h2:=HB.out.2.2.2;have h3:=Hm_.out.size;have h4:=Hwd.out;rw[h4];simpa using h1);have Hb9w23:Hid (Blk w23 (wd.heap.size) #[V 0,.bool false] 137):=Hb9w17.out.more m_;have Hne:Hid (wd.heap.size≠w17.heap.size):=Nat.ne_of_lt Hb9w17.out.lt;rw[<-Hw_.out];clear m_ Hw_;refine hK _ _ (HSm.out _ Hmw23.out) ?_;clear hK K;refine J0k 6 (by kernel_rfl) ?_
    ·refine J0b rfl (by kernel_rfl) (fun K hK=>?_);go_simp
     refine(c1 _).mono ?_;rintro e w24 ⟨rfl,m_⟩;have Hmw24:Hid (More W w24):=Hmw23.out.trans m_;have Hb9w24:Hid (Blk w24 (wd.heap.size) #[V 0,.bool false] 137):=Hb9w23.out.more m_;have Hb10w24:Hid (Blk w24 (w17.heap.size) #[V 0,.bool false] 137):=Hb10w23.out.more m_;clear m_
     go_simp
     refine hK _ _ (HSm.out _ Hmw24.out) ?_;clear hK K;refine J0k 13 (by kernel_rfl) ?_
     ·refine J0b rfl (by kernel_rfl) (fun K hK=>?_);go_simp
      refine(c2 _).mono ?_;rintro e w25 ⟨rfl,m_⟩;have Hmw25:Hid (More W w25):=Hmw24.out.trans m_;have Hb9w25:Hid (Blk w25 (wd.heap.size) #[V 0,.bool false] 137):=Hb9w24.out.more m_;have Hb10w25:Hid (Blk w25 (w17.heap.size) #[V 0,.bool false] 137):=Hb10w24.out.more m_;clear m_
      go_simp
      refine hK _ _ (HSm.out _ Hmw25.out) ?_;clear hK K;have F:Hid (WhB w s (wd.heap.size) (w17.heap.size) w25):=⟨HB.out.1.more Hmw25.out,HB.out.2.1.more Hmw25.out,Hb9w25.out,Hb10w25.out,HB.out.2.2.1.trans Hmw25.out,Hl9.out,Hl10.out,Hne.out⟩;refine J0p (listed':=#[true,true,true,true,true,true,true,true,true,true,true,true,true,true,true,true,false,false]) (by kernel_rfl) ?_;exact key _ _ _ F
  ·refine J0b rfl (by kernel_rfl) (fun K hK=>?_);go_simp
   obtain⟨w26,Hw_⟩:∃w_:World,Hid (w_=wd.alloc (.cells #[V 0,.bool false] 137)):=⟨_,rfl⟩;have m_:More wd w26:=Hw_.out▸(More.refl _).alloc _ _;have Hmw26:Hid (More W w26):=Hm_.out.trans m_;have Hb10w26:Hid (Blk w26 wd.heap.size #[V 0,.bool false] 137):=Hw_.out▸Blk.last _ _ _;have Hl10:Hid (w.heap.size+2<=wd.heap.size):=Nat.le_trans Hsz.out (Nat.le_refl _);rw[<-Hw_.out];clear m_ Hw_;refine hK _ _ (HSm.out _ Hmw26.out) ?_;clear hK K;refine J2x 6 14 (by kernel_rfl) ?_ ?_
   ·refine J0b rfl (by kernel_rfl) (fun K hK=>?_);go_simp
    refine(c1 _).mono ?_;rintro e w27 ⟨rfl,m_⟩;have Hmw27:Hid (More W w27):=Hmw26.out.trans m_;have Hb10w27:Hid (Blk w27 (wd.heap.size) #[V 0,.bool false] 137):=Hb10w26.out.more m_;clear m_
    go_simp
    refine hK _ _ (HSm.out _ Hmw27.out) ?_;clear hK K;refine J2x 13 14 (by kernel_rfl) ?_ ?_
    ·refine J0b rfl (by kernel_rfl) (fun K hK=>?_);go_simp
     refine(c2 _).mono ?_;rintro e w28 ⟨rfl,m_⟩;have Hmw28:Hid (More W w28):=Hmw27.out.trans m_;have Hb10w28:Hid (Blk w28 (wd.heap.size) #[V 0,.bool false] 137):=Hb10w27.out.more m_;clear m_
     go_simp
     refine hK _ _ (HSm.out _ Hmw28.out) ?_;clear hK K;refine J0k 14 (by kernel_rfl) ?_
     ·refine J0b rfl (by kernel_rfl) (fun K hK=>?_);go_simp
      obtain⟨w29,Hw_⟩:∃w_:World,Hid (w_=w28.alloc (.cells #[V 0,.bool false] 137)):=⟨_,rfl⟩;have m_:More w28 w29:=Hw_.out▸(More.refl _).alloc _ _;have Hmw29:Hid (More W w29):=Hmw28.out.trans m_;have Hb9w29:Hid (Blk w29 w28.heap.size #[V 0,.bool false] 137):=Hw_.out▸Blk.last _ _ _;have Hl9:Hid (w.heap.size+2<=w28.heap.size):=Nat.le_trans Hsz.out (by have h1:=Hmw28.out.size;have h2:=HB.out.2.2.2;have h3:=Hm_.out.size;have h4:=Hwd.out;rw[h4];simpa using h1);have Hb10w29:Hid (Blk w29 (wd.heap.size) #[V 0,.bool false] 137):=Hb10w28.out.more m_;have Hne:Hid (w28.heap.size≠wd.heap.size):=Nat.ne_of_gt Hb10w28.out.lt;rw[<-Hw_.out];clear m_ Hw_;refine hK _ _ (HSm.out _ Hmw29.out) ?_;clear hK K;have F:Hid (WhB w s (w28.heap.size) (wd.heap.size) w29):=⟨HB.out.1.more Hmw29.out,HB.out.2.1.more Hmw29.out,Hb9w29.out,Hb10w29.out,HB.out.2.2.1.trans Hmw29.out,Hl9.out,Hl10.out,Hne.out⟩;refine J0p (listed':=#[true,true,true,true,true,true,true,true,true,true,true,true,true,true,true,true,false,false]) (by kernel_rfl) ?_;exact key _ _ _ F
    ·refine J0b rfl (by kernel_rfl) (fun K hK=>?_);go_simp
     obtain⟨w30,Hw_⟩:∃w_:World,Hid (w_=w27.alloc (.cells #[V 0,.bool false] 137)):=⟨_,rfl⟩;have m_:More w27 w30:=Hw_.out▸(More.refl _).alloc _ _;have Hmw30:Hid (More W w30):=Hmw27.out.trans m_;have Hb9w30:Hid (Blk w30 w27.heap.size #[V 0,.bool false] 137):=Hw_.out▸Blk.last _ _ _;have Hl9:Hid (w.heap.size+2<=w27.heap.size):=Nat.le_trans Hsz.out (by have h1:=Hmw27.out.size;have h2:=HB.out.2.2.2;have h3:=Hm_.out.size;have h4:=Hwd.out;rw[h4];simpa using h1);have Hb10w30:Hid (Blk w30 (wd.heap.size) #[V 0,.bool false] 137):=Hb10w27.out.more m_;have Hne:Hid (w27.heap.size≠wd.heap.size):=Nat.ne_of_gt Hb10w27.out.lt;rw[<-Hw_.out];clear m_ Hw_;refine hK _ _ (HSm.out _ Hmw30.out) ?_;clear hK K;refine J0k 13 (by kernel_rfl) ?_
     ·refine J0b rfl (by kernel_rfl) (fun K hK=>?_);go_simp
      refine(c2 _).mono ?_;rintro e w31 ⟨rfl,m_⟩;have Hmw31:Hid (More W w31):=Hmw30.out.trans m_;have Hb9w31:Hid (Blk w31 (w27.heap.size) #[V 0,.bool false] 137):=Hb9w30.out.more m_;have Hb10w31:Hid (Blk w31 (wd.heap.size) #[V 0,.bool false] 137):=Hb10w30.out.more m_;clear m_
      go_simp
      refine hK _ _ (HSm.out _ Hmw31.out) ?_;clear hK K;have F:Hid (WhB w s (w27.heap.size) (wd.heap.size) w31):=⟨HB.out.1.more Hmw31.out,HB.out.2.1.more Hmw31.out,Hb9w31.out,Hb10w31.out,HB.out.2.2.1.trans Hmw31.out,Hl9.out,Hl10.out,Hne.out⟩;refine J0p (listed':=#[true,true,true,true,true,true,true,true,true,true,true,true,true,true,true,true,false,false]) (by kernel_rfl) ?_;exact key _ _ _ F
   ·refine J0b rfl (by kernel_rfl) (fun K hK=>?_);go_simp
    obtain⟨w32,Hw_⟩:∃w_:World,Hid (w_=w26.alloc (.cells #[V 0,.bool false] 137)):=⟨_,rfl⟩;have m_:More w26 w32:=Hw_.out▸(More.refl _).alloc _ _;have Hmw32:Hid (More W w32):=Hmw26.out.trans m_;have Hb9w32:Hid (Blk w32 w26.heap.size #[V 0,.bool false] 137):=Hw_.out▸Blk.last _ _ _;have Hl9:Hid (w.heap.size+2<=w26.heap.size):=Nat.le_trans Hsz.out (by have h1:=Hmw26.out.size;have h2:=HB.out.2.2.2;have h3:=Hm_.out.size;have h4:=Hwd.out;rw[h4];simpa using h1);have Hb10w32:Hid (Blk w32 (wd.heap.size) #[V 0,.bool false] 137):=Hb10w26.out.more m_;have Hne:Hid (w26.heap.size≠wd.heap.size):=Nat.ne_of_gt Hb10w26.out.lt;rw[<-Hw_.out];clear m_ Hw_;refine hK _ _ (HSm.out _ Hmw32.out) ?_;clear hK K;refine J0k 6 (by kernel_rfl) ?_
    ·refine J0b rfl (by kernel_rfl) (fun K hK=>?_);go_simp
     refine(c1 _).mono ?_;rintro e w33 ⟨rfl,m_⟩;have Hmw33:Hid (More W w33):=Hmw32.out.trans m_;have Hb9w33:Hid (Blk w33 (w26.heap.size) #[V 0,.bool false] 137):=Hb9w32.out.more m_;have Hb10w33:Hid (Blk w33 (wd.heap.size) #[V 0,.bool false] 137):=Hb10w32.out.more m_;clear m_
     go_simp
     refine hK _ _ (HSm.out _ Hmw33.out) ?_;clear hK K;refine J0k 13 (by kernel_rfl) ?_
     ·refine J0b rfl (by kernel_rfl) (fun K hK=>?_);go_simp
      refine(c2 _).mono ?_;rintro e w34 ⟨rfl,m_⟩;have Hmw34:Hid (More W w34):=Hmw33.out.trans m_;have Hb9w34:Hid (Blk w34 (w26.heap.size) #[V 0,.bool false] 137):=Hb9w33.out.more m_;have Hb10w34:Hid (Blk w34 (wd.heap.size) #[V 0,.bool false] 137):=Hb10w33.out.more m_;clear m_
      go_simp
      refine hK _ _ (HSm.out _ Hmw34.out) ?_;clear hK K;have F:Hid (WhB w s (w26.heap.size) (wd.heap.size) w34):=⟨HB.out.1.more Hmw34.out,HB.out.2.1.more Hmw34.out,Hb9w34.out,Hb10w34.out,HB.out.2.2.1.trans Hmw34.out,Hl9.out,Hl10.out,Hne.out⟩;refine J0p (listed':=#[true,true,true,true,true,true,true,true,true,true,true,true,true,true,true,true,false,false]) (by kernel_rfl) ?_;exact key _ _ _ F
 ·intro w1 g10 g9 F
  have t0:=F.out.b9.cell (j:=0) rfl;have t1:=F.out.b9.cell (j:=1) rfl;have u0:=F.out.b9.frozen 0;have u1:=F.out.b9.frozen 1;obtain⟨w2,Hw2⟩:∃w2:World,Hid (w2=(w1.setCell ⟨g9,0,none⟩ (V lab)).setCell ⟨g9,1,none⟩ (.bool las)):=⟨_,rfl⟩;have h9:=F.out.lt9;have h10:=F.out.lt10;have hne9:=F.out.ne
  have F2:Hid (Blk w2 w.heap.size (kv s) 139/\Blk w2 (w.heap.size+1) (kv zeroK) 139/\Blk w2 g9 #[V lab,.bool las] 137/\Blk w2 g10 #[V 0,.bool false] 137/\More w w2):=by
   rw[Hw2.out];exact⟨(F.out.r.other (by omega) _ _).other (by omega) _ _,(F.out.z.other (by omega) _ _).other (by omega) _ _,(F.out.b9.set 0 _).set 1 _,(F.out.b10.other hne9 _ _).other hne9 _ _,(F.out.up.setCell (by dsimp only;omega) _).setCell (by dsimp only;omega) _⟩
  obtain⟨w3,Hw3⟩:∃w3:World,Hid (w3=(w2.setCell ⟨g10,0,none⟩ (V lbb)).setCell ⟨g10,1,none⟩ (.bool lbs)):=⟨_,rfl⟩
  have F3:Hid (Blk w3 w.heap.size (kv s) 139/\Blk w3 (w.heap.size+1) (kv zeroK) 139/\Blk w3 g9 #[V lab,.bool las] 137/\Blk w3 g10 #[V lbb,.bool lbs] 137/\More w w3):=by
   rw[Hw3.out];exact⟨(F2.out.1.other (by omega) _ _).other (by omega) _ _,(F2.out.2.1.other (by omega) _ _).other (by omega) _ _,(F2.out.2.2.1.other hne9.symm _ _).other hne9.symm _ _,(F2.out.2.2.2.1.set 0 _).set 1 _,(F2.out.2.2.2.2.setCell (by dsimp only;omega) _).setCell (by dsimp only;omega) _⟩
  have Hlt:Hid (w.heap.size+2<=g9/\w.heap.size+2<=g10/\g9≠g10):=⟨h9,h10,hne9⟩;clear h9 h10 hne9;refine J0k 16 (by kernel_rfl) ?_;refine J0b rfl (by kernel_rfl) (fun K hK=>?_);go_simp;rw[<-Hw2.out];refine hK _ _ ((HS.out _).2 F2.out.1) ?_;clear hK K t0 t1 u0 u1;have t0:=F2.out.2.2.2.1.cell (j:=0) rfl;have t1:=F2.out.2.2.2.1.cell (j:=1) rfl;have u0:=F2.out.2.2.2.1.frozen 0;have u1:=F2.out.2.2.2.1.frozen 1;refine J0k 17 (by kernel_rfl) ?_;refine J0b rfl (by kernel_rfl) (fun K hK=>?_);go_simp;rw[<-Hw3.out];refine hK _ _ ((HS.out _).2 F3.out.1) ?_;clear hK K t0 t1 u0 u1;refine J4r (by kernel_rfl) ?_;have v0:=F3.out.2.2.1.cell (j:=0) rfl;have v1:=F3.out.2.2.1.cell (j:=1) rfl;have x0:=F3.out.2.2.2.1.cell (j:=0) rfl;have x1:=F3.out.2.2.2.1.cell (j:=1) rfl;clear hne HS0 c1 c2;rcases Hc.out with hc | hc | hc | hc
  ·subst hc
   have hend:whK 1 a b s=setK (setK s a ⟨lab,las⟩) b ⟨lbb,lbs⟩:=by rw[HK.out];simp
   obtain⟨w4,Hw4⟩:∃w_:World,Hid (w_=(w3.setCell ⟨w.heap.size,a.toNat*2,none⟩ (V lab)).setCell ⟨w.heap.size,a.toNat*2+1,none⟩ (.bool las)):=⟨_,rfl⟩
   have F4:Hid (Blk w4 w.heap.size (kv (setK (s) a ⟨lab,las⟩)) 139/\Blk w4 (w.heap.size+1) (kv zeroK) 139/\More w w4/\Blk w4 g10 #[V lbb,.bool lbs] 137):=by
    have hl:=Hlt.out;rw[Hw4.out];exact⟨(F3.out.1).setK a lab las ha8,((F3.out.2.1).other (by omega) _ _).other (by omega) _ _,((F3.out.2.2.2.2).setCell (by simp) _).setCell (by simp) _,((F3.out.2.2.2.1).other (by omega) _ _).other (by omega) _ _⟩
   obtain⟨w5,Hw5⟩:∃w_:World,Hid (w_=(w4.setCell ⟨w.heap.size,b.toNat*2,none⟩ (V lbb)).setCell ⟨w.heap.size,b.toNat*2+1,none⟩ (.bool lbs)):=⟨_,rfl⟩
   have F5:Hid (Blk w5 w.heap.size (kv (setK (setK s a ⟨lab,las⟩) b ⟨lbb,lbs⟩)) 139/\Blk w5 (w.heap.size+1) (kv zeroK) 139/\More w w5/\Blk w5 g10 #[V lbb,.bool lbs] 137):=by
    have hl:=Hlt.out;rw[Hw5.out];exact⟨(F4.out.1).setK b lbb lbs hb8,((F4.out.2.1).other (by omega) _ _).other (by omega) _ _,((F4.out.2.2.1).setCell (by simp) _).setCell (by simp) _,((F4.out.2.2.2).other (by omega) _ _).other (by omega) _ _⟩
   have y0:=F4.out.2.2.2.cell (j:=0) rfl;have y1:=F4.out.2.2.2.cell (j:=1) rfl;obtain⟨C,hC⟩:∃C,kv (whK 1 a b s)=C:=⟨_,rfl⟩
   have HE:Hid (P (.returned (.agg C)) (w5.setRow (w.heap.size+1) C)):=by
    have:=HP.out (w5.setRow (w.heap.size+1) C) (F5.out.2.2.1.setRow (by omega) C);rw[hC]at this;exact this
   have hb:w5.heap[w.heap.size]?=some (.cells C 139 (0,0)):=by
    have:=F5.out.1;rw[<-hend,hC]at this;exact this
   have hr:w5.heap[w.heap.size+1]?=some (.cells (kv zeroK) 139 (0,0)):=F5.out.2.1;have hi:(Tryz.prog.info? 139).map (·.size)=some C.size:=by rw[<-hC];exact J1b _
   have hold:(kv zeroK).size=C.size:=by rw[<-hC,J0d,J0d]
   have hone:C.all (·.oneCell')=true:=by rw[<-hC];exact J2w _
   clear hend HP;go_wp2_with (first | (refine J2m rfl (.tmp 33) (.tmp 32) rfl w.heap.size a.toNat lab las rfl rfl Jb3 (s) 139 F3.out.1 ha8 w4 Hw4.out ?_) | (refine J2m rfl (.tmp 42) (.tmp 41) rfl w.heap.size b.toNat lbb lbs rfl rfl Jb3 (setK s a ⟨lab,las⟩) 139 F4.out.1 hb8 w5 Hw5.out ?_) | (refine wpList_load_row rfl 139 (.tmp 4) rfl w.heap.size rfl 139 _ (0,0) _ hb Tryz.underlying139 rfl hi ?_) | (refine wpList_store_row rfl 139 (.tmp 8) (.tmp 43) rfl (w.heap.size+1) _ rfl rfl 139 _ hr hi hold hone ?_))
   exact bodyPost_ret (results_cell_row rfl _ _ (w.heap.size+1) 139 C (0,0) _ rfl (setRow_heap _ _ _ _ _ _ hr) Tryz.underlying139 rfl hi) rfl HE.out
  ·subst hc
   have hend:whK 2 a b s=s:=by rw[HK.out];simp
   obtain⟨C,hC⟩:∃C,kv (whK 2 a b s)=C:=⟨_,rfl⟩
   have HE:Hid (P (.returned (.agg C)) (w3.setRow (w.heap.size+1) C)):=by
    have:=HP.out (w3.setRow (w.heap.size+1) C) (F3.out.2.2.2.2.setRow (by omega) C);rw[hC]at this;exact this
   have hb:w3.heap[w.heap.size]?=some (.cells C 139 (0,0)):=by
    have:=F3.out.1;rw[<-hend,hC]at this;exact this
   have hr:w3.heap[w.heap.size+1]?=some (.cells (kv zeroK) 139 (0,0)):=F3.out.2.1;have hi:(Tryz.prog.info? 139).map (·.size)=some C.size:=by rw[<-hC];exact J1b _
   have hold:(kv zeroK).size=C.size:=by rw[<-hC,J0d,J0d]
   have hone:C.all (·.oneCell')=true:=by rw[<-hC];exact J2w _
   clear hend HP;go_wp2_with (first | (refine wpList_load_row rfl 139 (.tmp 4) rfl w.heap.size rfl 139 _ (0,0) _ hb Tryz.underlying139 rfl hi ?_) | (refine wpList_store_row rfl 139 (.tmp 8) (.tmp 43) rfl (w.heap.size+1) _ rfl rfl 139 _ hr hi hold hone ?_))
   exact bodyPost_ret (results_cell_row rfl _ _ (w.heap.size+1) 139 C (0,0) _ rfl (setRow_heap _ _ _ _ _ _ hr) Tryz.underlying139 rfl hi) rfl HE.out
  ·subst hc
   have hend:whK 3 a b s=setK s a ⟨lab,las⟩:=by rw[HK.out];simp
   obtain⟨w4,Hw4⟩:∃w_:World,Hid (w_=(w3.setCell ⟨w.heap.size,a.toNat*2,none⟩ (V lab)).setCell ⟨w.heap.size,a.toNat*2+1,none⟩ (.bool las)):=⟨_,rfl⟩
   have F4:Hid (Blk w4 w.heap.size (kv (setK (s) a ⟨lab,las⟩)) 139/\Blk w4 (w.heap.size+1) (kv zeroK) 139/\More w w4/\Blk w4 g10 #[V lbb,.bool lbs] 137):=by
    have hl:=Hlt.out;rw[Hw4.out];exact⟨(F3.out.1).setK a lab las ha8,((F3.out.2.1).other (by omega) _ _).other (by omega) _ _,((F3.out.2.2.2.2).setCell (by simp) _).setCell (by simp) _,((F3.out.2.2.2.1).other (by omega) _ _).other (by omega) _ _⟩
   obtain⟨C,hC⟩:∃C,kv (whK 3 a b s)=C:=⟨_,rfl⟩
   have HE:Hid (P (.returned (.agg C)) (w4.setRow (w.heap.size+1) C)):=by
    have:=HP.out (w4.setRow (w.heap.size+1) C) (F4.out.2.2.1.setRow (by omega) C);rw[hC]at this;exact this
   have hb:w4.heap[w.heap.size]?=some (.cells C 139 (0,0)):=by
    have:=F4.out.1;rw[<-hend,hC]at this;exact this
   have hr:w4.heap[w.heap.size+1]?=some (.cells (kv zeroK) 139 (0,0)):=F4.out.2.1;have hi:(Tryz.prog.info? 139).map (·.size)=some C.size:=by rw[<-hC];exact J1b _
   have hold:(kv zeroK).size=C.size:=by rw[<-hC,J0d,J0d]
   have hone:C.all (·.oneCell')=true:=by rw[<-hC];exact J2w _
   clear hend HP;go_wp2_with (first | (refine J2m rfl (.tmp 33) (.tmp 32) rfl w.heap.size a.toNat lab las rfl rfl Jb3 (s) 139 F3.out.1 ha8 w4 Hw4.out ?_) | (refine wpList_load_row rfl 139 (.tmp 4) rfl w.heap.size rfl 139 _ (0,0) _ hb Tryz.underlying139 rfl hi ?_) | (refine wpList_store_row rfl 139 (.tmp 8) (.tmp 43) rfl (w.heap.size+1) _ rfl rfl 139 _ hr hi hold hone ?_))
   exact bodyPost_ret (results_cell_row rfl _ _ (w.heap.size+1) 139 C (0,0) _ rfl (setRow_heap _ _ _ _ _ _ hr) Tryz.underlying139 rfl hi) rfl HE.out
  ·subst hc
   have hend:whK 4 a b s=setK s b ⟨lbb,lbs⟩:=by rw[HK.out];simp
   obtain⟨w4,Hw4⟩:∃w_:World,Hid (w_=(w3.setCell ⟨w.heap.size,b.toNat*2,none⟩ (V lbb)).setCell ⟨w.heap.size,b.toNat*2+1,none⟩ (.bool lbs)):=⟨_,rfl⟩
   have F4:Hid (Blk w4 w.heap.size (kv (setK (s) b ⟨lbb,lbs⟩)) 139/\Blk w4 (w.heap.size+1) (kv zeroK) 139/\More w w4/\Blk w4 g10 #[V lbb,.bool lbs] 137):=by
    have hl:=Hlt.out;rw[Hw4.out];exact⟨(F3.out.1).setK b lbb lbs hb8,((F3.out.2.1).other (by omega) _ _).other (by omega) _ _,((F3.out.2.2.2.2).setCell (by simp) _).setCell (by simp) _,((F3.out.2.2.2.1).other (by omega) _ _).other (by omega) _ _⟩
   obtain⟨C,hC⟩:∃C,kv (whK 4 a b s)=C:=⟨_,rfl⟩
   have HE:Hid (P (.returned (.agg C)) (w4.setRow (w.heap.size+1) C)):=by
    have:=HP.out (w4.setRow (w.heap.size+1) C) (F4.out.2.2.1.setRow (by omega) C);rw[hC]at this;exact this
   have hb:w4.heap[w.heap.size]?=some (.cells C 139 (0,0)):=by
    have:=F4.out.1;rw[<-hend,hC]at this;exact this
   have hr:w4.heap[w.heap.size+1]?=some (.cells (kv zeroK) 139 (0,0)):=F4.out.2.1;have hi:(Tryz.prog.info? 139).map (·.size)=some C.size:=by rw[<-hC];exact J1b _
   have hold:(kv zeroK).size=C.size:=by rw[<-hC,J0d,J0d]
   have hone:C.all (·.oneCell')=true:=by rw[<-hC];exact J2w _
   clear hend HP;go_wp2_with (first | (refine J2m rfl (.tmp 42) (.tmp 41) rfl w.heap.size b.toNat lbb lbs rfl rfl Jb3 (s) 139 F3.out.1 hb8 w4 Hw4.out ?_) | (refine wpList_load_row rfl 139 (.tmp 4) rfl w.heap.size rfl 139 _ (0,0) _ hb Tryz.underlying139 rfl hi ?_) | (refine wpList_store_row rfl 139 (.tmp 8) (.tmp 43) rfl (w.heap.size+1) _ rfl rfl 139 _ hr hi hold hone ?_))
   exact bodyPost_ret (results_cell_row rfl _ _ (w.heap.size+1) 139 C (0,0) _ rfl (setRow_heap _ _ _ _ _ _ hr) Tryz.underlying139 rfl hi) rfl HE.out
theorem Jc3(s:List UInt8)(l m:List Int):ansL (ansL s l) m=ansL s (l++m):=by
 unfold ansL;rw[J8m,List.append_assoc]
theorem Jf2(s:List UInt8)(x:Int)(w:World)(b:Nat)(T:TypeId)(HL:Lai w)(hs:s.length<=100)(hx:B64 x)(h:Blk w b #[V x] T):
  Calls Tryz.prog 91 #[.string (txt s),.slice (some ⟨b,0,none⟩) 1 1] w fun e w'=>e=.returned (.string (txt (ansL s [x])))/\More w w':=
 Jhs s [x] _ b 0 1 1 w HL rfl (fun y hy=>by simp at hy;subst hy;exact hx) (by omega) (sin_1 h)
theorem Jac(s:List UInt8)(x:Int)(w:World)(b:Nat)(T:TypeId)(HL:Lai w)(hs:s.length<=100)(hx:B64 x)(h:Blk w b #[V x] T):
  Calls Tryz.prog 88 #[.string (txt s),.slice (some ⟨b,0,none⟩) 1 1] w fun e w'=>e=.returned (.string (txt (ansL s [x])))/\More w w':=
 Jgb s [x] _ b 0 1 1 w HL rfl (fun y hy=>by simp at hy;subst hy;exact hx) (by omega) (sin_1 h)
theorem Jo7(s:List UInt8)(x:Int)(w:World)(b:Nat)(T:TypeId)(HL:Lai w)(hs:s.length<=100)(hx:B64 x)(h:Blk w b #[V x] T):
  Calls Tryz.prog 92 #[.string (txt s),.slice (some ⟨b,0,none⟩) 1 1] w fun e w'=>e=.returned (.string (txt (ansL s [x])))/\More w w':=
 Jad s [x] _ b 0 1 1 w HL rfl (fun y hy=>by simp at hy;subst hy;exact hx) (by omega) (sin_1 h)
theorem Jpb(s:List UInt8)(x y:Int)(w:World)(b:Nat)(T:TypeId)(HL:Lai w)(hs:s.length<=100)(hx:B64 x)(hy:B64 y)(h:Blk w b #[V x,V y] T):
  Calls Tryz.prog 88 #[.string (txt s),.slice (some ⟨b,0,none⟩) 2 2] w fun e w'=>e=.returned (.string (txt (ansL s [x,y])))/\More w w':=
 Jgb s [x,y] _ b 0 2 2 w HL rfl (fun z hz=>by simp at hz;rcases hz with rfl | rfl;exact hx;exact hy) (by omega) (sin_2 h)
theorem J87(s:List UInt8)(x:Int)(h:s.length<=5):(ansL s [x]).length<=100:=by
 have:=J2t [x];unfold ansL;rw[List.length_append];simp at this;omega

theorem J4i(x y:Int)(w:World)(HL0:Lai w)(hx:B64 x)(hy:B64 y):
  Calls Tryz.prog 90 #[.agg #[V x,V y]] w fun e w'=>e=.returned (.string (txt (ansL badW [x,y])))/\More w w':=by
 suffices hP:∀P:Ending->World->Prop,(∀w',More w w'->P (.returned (.string (txt (ansL badW [x,y])))) w')->Calls Tryz.prog 90 #[.agg #[V x,V y]] w P from hP _ (fun w' m=>⟨rfl,m⟩)
 intro P hP0;have HP:Hid (∀w',More w w'->P (.returned (.string (txt (ansL badW [x,y])))) w'):=hP0;have C1:Hid (∀(w1:World) (b:Nat) (T:TypeId),More w w1->Blk w1 b #[V x] T->Calls Tryz.prog 91 #[.string ⟨#[98,97,100]⟩,.slice (some ⟨b,0,none⟩) 1 1] w1 fun e w'=>e=.returned (.string (txt (ansL badW [x])))/\More w1 w'):=fun w1 b T m h=>Jf2 badW x w1 b T (HL0.more m) (by decide) hx h
 have C2:Hid (∀(w1:World) (b:Nat) (T:TypeId),More w w1->Blk w1 b #[V y] T->Calls Tryz.prog 88 #[.string (txt (ansL badW [x])),.slice (some ⟨b,0,none⟩) 1 1] w1 fun e w'=>e=.returned (.string (txt (ansL badW [x,y])))/\More w1 w'):=fun w1 b T m h=>by
  have:=Jac (ansL badW [x]) y w1 b T (HL0.more m) (J87 _ _ (by decide)) hy h;rw[Jc3]at this;exact this
 clear hP0 HL0 hx hy;obtain⟨R1,HR1⟩:∃R,Hid (txt (ansL badW [x])=R):=⟨_,rfl⟩;obtain⟨R2,HR2⟩:∃R,Hid (txt (ansL badW [x,y])=R):=⟨_,rfl⟩;rw[HR2.out]at C2 HP;rw[HR1.out]at C1 C2;obtain⟨W,HW⟩:∃w_:World,Hid (w_=w.alloc (.cells #[V x,V y] 52)):=⟨_,rfl⟩;have HmW:Hid (More w W):=HW.out▸(More.refl _).alloc _ _;have HbW:Hid (Blk W w.heap.size #[V x,V y] 52):=HW.out▸Blk.last _ _ _;obtain⟨S,HS⟩:∃S:World->Prop,Hid (∀w',S w'↔More W w'):=⟨_,fun _=>Iff.rfl⟩;obtain⟨N,HN⟩:∃x,Hid (w.heap.size=x):=⟨_,rfl⟩;rw[HN.out]at HbW;have k0:∀i:{ w' // S w' },i.val.cell? ⟨N,0,none⟩=some (V x):=fun i=>((HS.out _).1 i.property).cell (HbW.out.cell rfl)
 have k1:∀i:{ w' // S w' },i.val.cell? ⟨N,1,none⟩=some (V y):=fun i=>((HS.out _).1 i.property).cell (HbW.out.cell rfl)
 have HS0:S W.drew:=(HS.out _).2 (More.refl _).drew;have hne:Nonempty { w' // S w' }:=⟨⟨_,HS0⟩⟩;obtain⟨wd,Hwd⟩:∃wd:World,Hid (wd=W.drew):=⟨_,rfl⟩;have Hmd:Hid (More W wd):=Hwd.out▸(More.refl _).drew;have HE:Hid (∀w',More W w'->P (.returned (.string R2)) w'):=fun w' m=>HP.out w' (HmW.out.trans m)
 have HF1:Hid (∀(w1:World) (b:Nat) (T:TypeId),More W w1->Blk w1 b #[V x] T->Calls Tryz.prog 91 #[.string ⟨#[98,97,100]⟩,.slice (some ⟨b,0,none⟩) 1 1] w1 fun e w'=>e=.returned (.string R1)/\More w1 w'):=fun w1 b T m=>C1.out w1 b T (HmW.out.trans m)
 have HF2:Hid (∀(w1:World) (b:Nat) (T:TypeId),More W w1->Blk w1 b #[V y] T->Calls Tryz.prog 88 #[.string R1,.slice (some ⟨b,0,none⟩) 1 1] w1 fun e w'=>e=.returned (.string R2)/\More w1 w'):=fun w1 b T m=>C2.out w1 b T (HmW.out.trans m)
 clear HP C1 C2 HbW HmW;go_enter Tryz.func90,Tryz.ntmps90;go_wp2_with (fail)
 rw[<-HW.out];rw[HN.out];refine J10 (S:=S) (by kernel_rfl) HS0 ?_;refine J05 0 rfl (by kernel_rfl) HS0 (by kernel_rfl) (fun K hK=>?_);go_simp;refine hK _ _ ?_;clear hK K;refine J05 1 rfl (by kernel_rfl) HS0 (by kernel_rfl) (fun K hK=>?_);go_simp;refine hK _ _ ?_;clear hK K;refine J05 4 rfl (by kernel_rfl) HS0 (by kernel_rfl) (fun K hK=>?_);go_simp;refine hK _ _ ?_;clear hK K;refine J05 5 rfl (by kernel_rfl) HS0 (by kernel_rfl) (fun K hK=>?_);go_simp;refine hK _ _ ?_;clear hK K;rw[<-Hwd.out];clear k0 k1;apply J7d
 ·intro key
  refine J2x 2 6 (by kernel_rfl) ?_ ?_
  ·refine J0b rfl (by kernel_rfl) (fun K hK=>?_);go_simp
   obtain⟨v1,Hv1⟩:∃w_:World,Hid (w_=wd.alloc (.cells #[V x] 45)):=⟨_,rfl⟩;have mv1:More wd v1:=Hv1.out▸(More.refl _).alloc _ _;have bA:Blk v1 wd.heap.size #[V x] 45:=Hv1.out▸Blk.last _ _ _;rw[<-Hv1.out];clear Hv1;refine hK _ _ ((HS.out _).2 (Hmd.out.trans mv1)) ?_;clear hK K;have HbA:=J02 bA;have Hm1:=J02 mv1;clear bA mv1;refine J2x 3 6 (by kernel_rfl) ?_ ?_
   ·refine J0b rfl (by kernel_rfl) (fun K hK=>?_);go_simp
    refine(HF1.out v1 _ _ (Hmd.out.trans Hm1.out) HbA.out).mono ?_;rintro e v2 ⟨rfl,mv2⟩
    go_simp
    refine hK _ _ ((HS.out _).2 ((Hmd.out.trans Hm1.out).trans mv2)) ?_;clear hK K;have Hm2:=J02 mv2;clear mv2;refine J0k 6 (by kernel_rfl) ?_;refine J0b rfl (by kernel_rfl) (fun K hK=>?_);go_simp;obtain⟨v3,Hv3⟩:∃w_:World,Hid (w_=v2.alloc (.cells #[V y] 3)):=⟨_,rfl⟩;have mv3:More v2 v3:=Hv3.out▸(More.refl _).alloc _ _;have bC:Blk v3 v2.heap.size #[V y] 3:=Hv3.out▸Blk.last _ _ _;rw[<-Hv3.out];clear Hv3;refine hK _ _ ((HS.out _).2 (((Hmd.out.trans Hm1.out).trans Hm2.out).trans mv3)) ?_;clear hK K;have F:Hid (Blk v3 v2.heap.size #[V y] 3/\More W v3):=⟨bC,((Hmd.out.trans Hm1.out).trans Hm2.out).trans mv3⟩;clear bC mv3;refine J0p (listed':=#[true,true,true,true,true,true,true,false,false]) (by kernel_rfl) ?_;clear HbA Hm1 Hm2;generalize v2.heap.size=gC at F |-;generalize wd.heap.size=gA;clear v1 v2
    revert v3 gC gA
    exact key
   ·refine J0b rfl (by kernel_rfl) (fun K hK=>?_);go_simp
    obtain⟨v2,Hv2⟩:∃w_:World,Hid (w_=v1.alloc (.cells #[V y] 3)):=⟨_,rfl⟩;have mv2:More v1 v2:=Hv2.out▸(More.refl _).alloc _ _;have bC:Blk v2 v1.heap.size #[V y] 3:=Hv2.out▸Blk.last _ _ _;rw[<-Hv2.out];clear Hv2;refine hK _ _ ((HS.out _).2 ((Hmd.out.trans Hm1.out).trans mv2)) ?_;clear hK K;have HbC:=J02 bC;have Hm2:=J02 mv2;clear bC mv2;refine J0k 3 (by kernel_rfl) ?_;refine J0b rfl (by kernel_rfl) (fun K hK=>?_);go_simp;refine(HF1.out v2 _ _ ((Hmd.out.trans Hm1.out).trans Hm2.out) (HbA.out.more Hm2.out)).mono ?_;rintro e v3 ⟨rfl,mv3⟩
    go_simp
    refine hK _ _ ((HS.out _).2 (((Hmd.out.trans Hm1.out).trans Hm2.out).trans mv3)) ?_;clear hK K;have F:Hid (Blk v3 v1.heap.size #[V y] 3/\More W v3):=⟨HbC.out.more mv3,((Hmd.out.trans Hm1.out).trans Hm2.out).trans mv3⟩;refine J0p (listed':=#[true,true,true,true,true,true,true,false,false]) (by kernel_rfl) ?_;exact key _ _ F _
  ·refine J0b rfl (by kernel_rfl) (fun K hK=>?_);go_simp
   obtain⟨v1,Hv1⟩:∃w_:World,Hid (w_=wd.alloc (.cells #[V y] 3)):=⟨_,rfl⟩;have mv1:More wd v1:=Hv1.out▸(More.refl _).alloc _ _;have bC:Blk v1 wd.heap.size #[V y] 3:=Hv1.out▸Blk.last _ _ _;rw[<-Hv1.out];clear Hv1;refine hK _ _ ((HS.out _).2 (Hmd.out.trans mv1)) ?_;clear hK K;have HbC:=J02 bC;have Hm1:=J02 mv1;clear bC mv1;refine J0k 2 (by kernel_rfl) ?_;refine J0b rfl (by kernel_rfl) (fun K hK=>?_);go_simp;obtain⟨v2,Hv2⟩:∃w_:World,Hid (w_=v1.alloc (.cells #[V x] 45)):=⟨_,rfl⟩;have mv2:More v1 v2:=Hv2.out▸(More.refl _).alloc _ _;have bA:Blk v2 v1.heap.size #[V x] 45:=Hv2.out▸Blk.last _ _ _;rw[<-Hv2.out];clear Hv2;refine hK _ _ ((HS.out _).2 ((Hmd.out.trans Hm1.out).trans mv2)) ?_;clear hK K;have HbA:=J02 bA;have Hm2:=J02 mv2;clear bA mv2;refine J0k 3 (by kernel_rfl) ?_;refine J0b rfl (by kernel_rfl) (fun K hK=>?_);go_simp;refine(HF1.out v2 _ _ ((Hmd.out.trans Hm1.out).trans Hm2.out) HbA.out).mono ?_;rintro e v3 ⟨rfl,mv3⟩
   go_simp
   refine hK _ _ ((HS.out _).2 (((Hmd.out.trans Hm1.out).trans Hm2.out).trans mv3)) ?_;clear hK K;have F:Hid (Blk v3 wd.heap.size #[V y] 3/\More W v3):=⟨(HbC.out.more Hm2.out).more mv3,((Hmd.out.trans Hm1.out).trans Hm2.out).trans mv3⟩;refine J0p (listed':=#[true,true,true,true,true,true,true,false,false]) (by kernel_rfl) ?_;exact key _ _ F _
 ·intro v3 gC F gA
  refine J0k 7 (by kernel_rfl) ?_;refine J0b rfl (by kernel_rfl) (fun K hK=>?_);go_simp;refine(HF2.out v3 _ _ F.out.2 F.out.1).mono ?_;rintro e v4 ⟨rfl,m4⟩
  go_simp
  refine hK _ _ ((HS.out _).2 (F.out.2.trans m4)) ?_;clear hK K;have Hend:=J02 (HE.out v4 (F.out.2.trans m4));refine J05 8 rfl (by kernel_rfl) ((HS.out _).2 (F.out.2.trans m4)) (by kernel_rfl) (fun K hK=>?_);go_simp;refine hK _ _ ?_;clear hK K;refine J4r (by kernel_rfl) ?_;clear m4 F HE HF1 HF2 hne HS0;go_wp2;exact Hend.out
end
section
open Go.RowKit
set_option linter.unusedSimpArgs false
set_option linter.unusedVariables false
def celR:List (Int × Bool)->List Value
 | []=>[]
 | r::l=>V r.1::.bool r.2::celR l
theorem J35:∀l,(celR l).length=l.length*2
 | []=>rfl
 | s::l=>by simp[celR,J35 l];omega
theorem Jfj:∀l l',celR (l++l')=celR l++celR l'
 | [],_=>rfl
 | s::l,l'=>by simp[celR,Jfj l l']
theorem Jdq:∀(l:List (Int × Bool)) (i:Nat) (s:Int × Bool),l[i]?=some s->(celR l)[i*2]?=some (V s.1)/\(celR l)[i*2+1]?=some (.bool s.2)
 | [],i,s,h=>by simp at h
 | x::l,0,s,h=>by simp at h;subst h;simp[celR]
 | x::l,i+1,s,h=>by
  have:=Jdq l i s (by simpa using h);rw[show(i+1)*2=i*2+1+1 by omega,celR];simpa using this
theorem Jal:∀(l:List (Int × Bool)),∀u ∈ celR l,u.oneCell'=true
 | [],u,h=>by simp[celR]at h
 | i::l,u,h=>by
  simp only[celR,List.mem_cons]at h;rcases h with rfl | rfl | h
  ·rfl
  ·rfl
  ·exact Jal l u h
def celI:List Ins->List Value
 | []=>[]
 | i::l=>V i.op::V i.a::V i.b::V i.c::V i.n::celI l
theorem J34:∀l:List Ins,(celI l).length=l.length*5
 | []=>rfl
 | s::l=>by simp[celI,J34 l];omega
theorem Jfi:∀l l':List Ins,celI (l++l')=celI l++celI l'
 | [],_=>rfl
 | s::l,l'=>by simp[celI,Jfi l l']
theorem Jdp:∀(l:List Ins) (i:Nat) (s:Ins),l[i]?=some s->(celI l)[i*5]?=some (V s.op)/\(celI l)[i*5+1]?=some (V s.a)/\(celI l)[i*5+2]?=some (V s.b)/\(celI l)[i*5+3]?=some (V s.c)/\(celI l)[i*5+4]?=some (V s.n)
 | [],i,s,h=>by simp at h
 | x::l,0,s,h=>by simp at h;subst h;simp[celI]
 | x::l,i+1,s,h=>by
  have:=Jdp l i s (by simpa using h);rw[show(i+1)*5=i*5+1+1+1+1+1 by omega,celI];simpa using this
theorem Jak:∀(l:List Ins),∀u ∈ celI l,u.oneCell'=true
 | [],u,h=>by simp[celI]at h
 | i::l,u,h=>by
  simp only[celI,List.mem_cons]at h;rcases h with rfl | rfl | rfl | rfl | rfl | h
  ·rfl
  ·rfl
  ·rfl
  ·rfl
  ·rfl
  ·exact Jak l u h

theorem Jcw{w:World}{base:Nat}{e:TypeId}{size:Nat}{v:Value}{n:Nat}{xs:List Value}(h:w.ownsRow base e size v n xs){g:Nat}(hg:v.ownBlock=some g):∃cur,w.heap[g]?=some (.cells cur e (0,0)):=by
 rcases h.2 with⟨rfl,_⟩ | ⟨g',cap,cur,rfl,_,h,_⟩
 ·cases hg
 ·obtain rfl:g'=g:=by simpa[Value.ownBlock]using hg
  exact⟨cur,h⟩
theorem J44{w w':World}{b:Nat}{e:TypeId}{s:Nat}{v:Value}{n:Nat}{xs:List Value}(h:w.ownsRow b e s v n xs)(m:More w w'):w'.ownsRow b e s v n xs:=by
 refine World.ownsRow.kept h (m.grow none) ?_;cases v.ownBlock with
 | none=>left;rfl
 | some b=>right;simp
end
section
open Go.RowKit
set_option linter.unusedVariables false
def RowT(T:TypeId)(sz B:Nat)(w:World)(v:Value)(n:Nat):Prop:=(v=.slice none 0 0/\n=0)\/∃g cap cur,v=.slice (some ⟨g,0,none⟩) n cap/\B<=g/\w.heap[g]?=some (.cells cur T (0,0))/\n<=cap/\cap<=maxLen/\cur.size=cap*sz
theorem RowT.of_own{T:TypeId}{sz B:Nat}{w:World}{v:Value}{n:Nat}{xs:List Value}(h:w.ownsRow B T sz v n xs):RowT T sz B w v n:=by
 rcases h.2 with h | ⟨g,cap,cur,e,h1,h2,h3,h4,h5,_⟩
 ·exact .inl h
 ·exact .inr ⟨g,cap,cur,e,h1,h2,h3,h4,h5⟩
theorem RowT.low{T:TypeId}{sz B B':Nat}{w:World}{v:Value}{n:Nat}(h:RowT T sz B w v n)(hb:B'<=B):RowT T sz B' w v n:=by
 rcases h with h | ⟨g,cap,cur,e,h1,h2⟩
 ·exact .inl h
 ·exact .inr ⟨g,cap,cur,e,by omega,h2⟩
theorem RowT.more{T:TypeId}{sz B:Nat}{w w':World}{v:Value}{n:Nat}(h:RowT T sz B w v n)(m:More w w'):RowT T sz B w' v n:=by
 rcases h with h | ⟨g,cap,cur,e,h1,h2,h3⟩
 ·exact .inl h
 ·exact .inr ⟨g,cap,cur,e,h1,Blk.more m h2,h3⟩
theorem RowT.put{T:TypeId}{sz B:Nat}{w:World}{v:Value}{n:Nat}(h:RowT T sz B w v n)(b j:Nat)(u:Value):RowT T sz B (w.setCell ⟨b,j,none⟩ u) v n:=by
 rcases h with h | ⟨g,cap,cur,e,h1,h2,h3,h4,h5⟩
 ·exact .inl h
 ·by_cases hb:b=g
  ·subst hb
   exact .inr ⟨b,cap,_,e,h1,Blk.put h2 j u,h3,h4,by simpa using h5⟩
  ·exact .inr ⟨g,cap,cur,e,h1,Blk.other h2 hb j u,h3,h4,h5⟩
theorem RowT.own{T:TypeId}{sz B:Nat}{w:World}{v:Value}{n:Nat}(h:RowT T sz B w v n)(xs:List Value)(hx:xs.length=n*sz)(hc:∀g,v.ownBlock=some g->∀j u,xs[j]?=some u->w.cell? ⟨g,j,none⟩=some u):w.ownsRow B T sz v n xs:=by
 rcases h with⟨rfl,rfl⟩ | ⟨g,cap,cur,rfl,h1,h2,h3,h4,h5⟩
 ·exact⟨hx,.inl ⟨rfl,rfl⟩⟩
 ·refine⟨hx,.inr ⟨g,cap,cur,rfl,h1,h2,h3,h4,h5,?_⟩⟩
  have hle:n*sz<=cur.size:=by rw[h5];exact Nat.mul_le_mul_right _ h3
  apply List.ext_getElem?;intro j;by_cases c:j < n*sz
  ·obtain⟨u,hu⟩:∃u,xs[j]?=some u:=⟨_,List.getElem?_eq_getElem (by omega)⟩
   have:=hc g rfl j u hu;rw[cell_of_row _ _ _ _ _ _ h2]at this;rw[hu,List.getElem?_take,if_pos c];simpa using this
  ·rw[List.getElem?_eq_none (by simp;omega),List.getElem?_eq_none (by omega)]
end
section
open Go.RowKit
set_option linter.unusedSimpArgs false
set_option linter.unusedVariables false
set_option maxRecDepth 8000
def OfType(w:World)(row:Option Nat)(T:TypeId):Prop:=∀r,row=some r->∃cur fz,w.heap[r]?=some (.cells cur T fz)
theorem Blk.ofType{w:World}{n:Nat}{c:Array Value}{T:TypeId}(h:Blk w n c T):OfType w (some n) T:=fun r e=>by cases e;exact⟨c,_,h⟩
theorem J1u{w:World}{B:Nat}{e:TypeId}{s:Nat}{v:Value}{n:Nat}{xs:List Value}(h:w.ownsRow B e s v n xs):OfType w v.ownBlock e:=fun r hr=>by
 obtain⟨cur,hc⟩:=Jcw h hr;exact⟨cur,_,hc⟩
theorem Blk.keptT{w w2:World}{row:Option Nat}{n:Nat}{c:Array Value}{T T':TypeId}(h:Blk w n c T)(g:w.grownBy w2 row)(ht:OfType w row T')(ne:T'≠T):Blk w2 n c T:=
 (g.block n h.lt (fun e=>by
  obtain⟨cur,fz,q⟩:=ht n e.symm;have h':w.heap[n]?=some (.cells c T (0,0)):=h;rw[h']at q;have:=Option.some.inj q
  injection this with _ k _
  exact ne k.symm)).trans h
theorem J0o{w w2:World}{row:Option Nat}{B:Nat}{e:TypeId}{s:Nat}{v:Value}{n:Nat}{xs:List Value}{T':TypeId}(h:w.ownsRow B e s v n xs)(g:w.grownBy w2 row)(ht:OfType w row T')(ne:T'≠e):w2.ownsRow B e s v n xs:=by
 refine World.ownsRow.kept h g ?_;cases hv:v.ownBlock with
 | none=>left;rfl
 | some b=>
  right;intro e1;obtain⟨cur,fz,q⟩:=ht b e1.symm;obtain⟨cur',q'⟩:=Jcw h hv;rw[q']at q;have:=Option.some.inj q
  injection this with _ k _
  exact ne k.symm
theorem OfType.keptT{w w2:World}{row row':Option Nat}{T T':TypeId}(h:OfType w row T)(g:w.grownBy w2 row')(ht:OfType w row' T')(ne:T'≠T):OfType w2 row T:=fun r hr=>by
 obtain⟨cur,fz,q⟩:=h r hr;refine⟨cur,fz,(g.block r ?_ ?_).trans q⟩
 ·rcases Nat.lt_or_ge r w.heap.size with x | x
  ·exact x
  ·simp[x]at q
 ·intro e
  obtain⟨cur',fz',q'⟩:=ht r e.symm;rw[q]at q';have:=Option.some.inj q'
  injection this with _ k _
  exact ne k.symm

def rowsV(gs:List Nat)(ms:List (List Int)):List Value:=List.zipWith (fun g l=>Value.slice (some ⟨g,0,none⟩) l.length l.length) gs ms
def J2l(l:List Int):Array Value:=(l.map (fun x=>Value.int .i64 x)).toArray
structure Words(B:Nat)(gs:List Nat)(ms:List (List Int))(mv:Value)(w:World):Prop where
 len:gs.length=ms.length
 nodup:gs.Nodup
 own:w.ownsRow B 35 1 mv ms.length (rowsV gs ms)
 blk:∀(i g:Nat) (l:List Int),gs[i]?=some g->ms[i]?=some l->B<=g/\Blk w g (J2l l) 2
theorem Words.keptT{B:Nat}{gs:List Nat}{ms:List (List Int)}{mv:Value}{w w2:World}{row:Option Nat}{T':TypeId}(h:Words B gs ms mv w)(g:w.grownBy w2 row)(ht:OfType w row T')(n1:T'≠35)(n2:T'≠2):Words B gs ms mv w2:=
 ⟨h.len,h.nodup,J0o h.own g ht n1,fun i b l h1 h2=>⟨(h.blk i b l h1 h2).1,(h.blk i b l h1 h2).2.keptT g ht n2⟩⟩
theorem Words.more{B:Nat}{gs:List Nat}{ms:List (List Int)}{mv:Value}{w w2:World}(h:Words B gs ms mv w)(m:More w w2):Words B gs ms mv w2:=
 ⟨h.len,h.nodup,J44 h.own m,fun i b l h1 h2=>⟨(h.blk i b l h1 h2).1,(h.blk i b l h1 h2).2.more m⟩⟩

def TyOk(T:TypeId):Prop:=T≠76/\T≠41/\T≠35/\T≠2
structure Ply(T:TypeId)(B G:Nat)(rs:List (Int × Bool))(cs:List Ins)(ms:List (List Int))(rv cv mv:Value)(w:World):Prop where
 blk:Blk w G #[rv,cv,mv] T
 lo:B=G+1
 ty:TyOk T
 ownR:w.ownsRow B 76 2 rv rs.length (celR rs)
 ownC:w.ownsRow B 41 5 cv cs.length (celI cs)
 mem:∃gs,Words B gs ms mv w
section
variable {T:TypeId} {B G:Nat} {rs:List (Int × Bool)} {cs:List Ins} {ms:List (List Int)} {rv cv mv:Value} {w w2:World}
theorem Ply.more(h:Ply T B G rs cs ms rv cv mv w)(m:More w w2):Ply T B G rs cs ms rv cv mv w2:=by
 obtain⟨gs,hg⟩:=h.mem;exact⟨h.blk.more m,h.lo,h.ty,J44 h.ownR m,J44 h.ownC m,gs,hg.more m⟩
theorem J0l(w:World)(b o:Nat)(v:Value):w.grownBy (w.setCell ⟨b,o,none⟩ v) (some b):=J19 _ _ _ _
theorem Ply.addC(h:Ply T B G rs cs ms rv cv mv w)(g2:w.grownBy w2 cv.ownBlock){j:Ins}{v:Value}
  (own:w2.ownsRow B 41 5 v (cs.length+1) (celI cs++celI [j])):Ply T B G rs (cs++[j]) ms rv v mv (w2.setCell ⟨G,1,none⟩ v):=by
 have hc:=J1u h.ownC;have hB:=h.blk.keptT g2 hc (fun e=>h.ty.2.1 e.symm);obtain⟨gs,hg⟩:=h.mem;have hG:=hB.ofType;refine⟨by simpa using hB.put 1 v,h.lo,h.ty,?_,?_,gs,?_⟩
 ·exact J0o (J0o h.ownR g2 hc (by decide)) (J0l _ _ _ _) hG h.ty.1
 ·rw[Jfi,show(cs++[j]).length=cs.length+1 by simp]
  exact J0o own (J0l _ _ _ _) hG h.ty.2.1
 ·exact(hg.keptT g2 hc (by decide) (by decide)).keptT (J0l _ _ _ _) hG h.ty.2.2.1 h.ty.2.2.2
theorem Ply.addR(h:Ply T B G rs cs ms rv cv mv w)(g2:w.grownBy w2 rv.ownBlock){j:Int × Bool}{v:Value}
  (own:w2.ownsRow B 76 2 v (rs.length+1) (celR rs++celR [j])):Ply T B G (rs++[j]) cs ms v cv mv (w2.setCell ⟨G,0,none⟩ v):=by
 have hc:=J1u h.ownR;have hB:=h.blk.keptT g2 hc (fun e=>h.ty.1 e.symm);obtain⟨gs,hg⟩:=h.mem;have hG:=hB.ofType;refine⟨by simpa using hB.put 0 v,h.lo,h.ty,?_,?_,gs,?_⟩
 ·rw[Jfj,show(rs++[j]).length=rs.length+1 by simp]
  exact J0o own (J0l _ _ _ _) hG h.ty.1
 ·exact J0o (J0o h.ownC g2 hc (by decide)) (J0l _ _ _ _) hG h.ty.2.1
 ·exact(hg.keptT g2 hc (by decide) (by decide)).keptT (J0l _ _ _ _) hG h.ty.2.2.1 h.ty.2.2.2
theorem Jhl(gs:List Nat)(ms:List (List Int))(g:Nat)(l:List Int)(h:gs.length=ms.length):rowsV (gs++[g]) (ms++[l])=rowsV gs ms++[.slice (some ⟨g,0,none⟩) l.length l.length]:=by
 unfold rowsV;rw[List.zipWith_append h]
 rfl
theorem Jhd{l:List Nat}{a:Nat}(h:l.Nodup)(ha:a ∉ l):(l++[a]).Nodup:=by
 rw[List.nodup_append];exact⟨h,by simp,fun x hx y hy=>by simp at hy;subst hy;exact fun e=>ha (e▸hx)⟩
theorem Ply.addM(h:Ply T B G rs cs ms rv cv mv w){gs:List Nat}(k:Words B gs ms mv w){l:List Int}{g:Nat}{w1:World}(hb:Blk w1 g (J2l l) 2)(hg:w.heap.size<=g)(m:More w w1)(g2:w1.grownBy w2 mv.ownBlock){v:Value}
  (own:w2.ownsRow B 35 1 v (ms.length+1) (rowsV gs ms++[.slice (some ⟨g,0,none⟩) l.length l.length])):Ply T B G rs cs (ms++[l]) rv cv v (w2.setCell ⟨G,2,none⟩ v):=by
 have h1:=h.more m;have k1:=k.more m;have hc:=J1u k1.own;have hB:=h1.blk.keptT g2 hc (fun e=>h.ty.2.2.1 e.symm);have hG:=hB.ofType;have hBg:B<=g:=by have:=h.blk.lt;have:=h.lo;omega
 refine⟨by simpa using hB.put 2 v,h.lo,h.ty,?_,?_,gs++[g],?_⟩
 ·exact J0o (J0o h1.ownR g2 hc (by decide)) (J0l _ _ _ _) hG h.ty.1
 ·exact J0o (J0o h1.ownC g2 hc (by decide)) (J0l _ _ _ _) hG h.ty.2.1
 ·have hlt:∀x ∈ gs,x < w.heap.size:=fun x hx=>by
   obtain⟨i,hi⟩:=List.getElem?_of_mem hx;have hi2:i < ms.length:=by rw[<-k.len];exact(List.getElem?_eq_some_iff.1 hi).1
   exact(k.blk i x _ hi (List.getElem?_eq_getElem hi2)).2.lt
  refine⟨by simp[k.len],Jhd k.nodup (fun q=>by have:=hlt g q;omega),?_,?_⟩
  ·rw[Jhl _ _ _ _ k.len,show(ms++[l]).length=ms.length+1 by simp]
   exact J0o own (J0l _ _ _ _) hG h.ty.2.2.1
  ·intro i b r e1 e2
   have hk:B<=b/\Blk w1 b (J2l r) 2:=by
    by_cases c:i < gs.length
    ·rw[List.getElem?_append_left c]at e1
     rw[List.getElem?_append_left (by rw[<-k.len];exact c)]at e2;exact k1.blk i b r e1 e2
    ·rw[List.getElem?_append_right (by omega)]at e1
     rw[List.getElem?_append_right (by rw[<-k.len];omega)]at e2
     have hi:i - gs.length=0:=by
      rcases Nat.eq_zero_or_pos (i - gs.length) with q | q
      ·exact q
      ·rw[List.getElem?_eq_none (by simp;omega)]at e1;cases e1
     rw[hi]at e1;rw[<-k.len,hi]at e2;obtain rfl:g=b:=by simpa using e1
     obtain rfl:l=r:=by simpa using e2
     exact⟨hBg,hb⟩
   exact⟨hk.1,(hk.2.keptT g2 hc (by decide)).keptT (J0l _ _ _ _) hG h.ty.2.2.2⟩
theorem Ply.below(h:Ply T B G rs cs ms rv cv mv w){w0:World}{row:Option Nat}(b:Below G w0 w)(g2:w.grownBy w2 row)(hr:∀k,row=some k->B<=k)(o:Nat)(v:Value):Below G w0 (w2.setCell ⟨G,o,none⟩ v):=
 (Below.grown b g2 (Nat.le_of_lt h.blk.lt) (fun k e=>by have:=hr k e;have:=h.lo;omega)).setCell (Nat.le_refl _) v
theorem Ply.put(h:Ply T B G rs cs ms rv cv mv w){i g j:Nat}{l:List Int}(gs:List Nat)(k:Words B gs ms mv w)(h1:gs[i]?=some g)(h2:ms[i]?=some l)(hj:j < l.length)(x:Int):
  Ply T B G rs cs (ms.set i (l.set j x)) rv cv mv (w.setCell ⟨g,j,none⟩ (V x))/\Words B gs (ms.set i (l.set j x)) mv (w.setCell ⟨g,j,none⟩ (V x)):=by
 have hb:=(k.blk i g l h1 h2).2;have ht:=hb.ofType;have sg:=J0l w g j (V x)
 have hW:Words B gs (ms.set i (l.set j x)) mv (w.setCell ⟨g,j,none⟩ (V x)):=by
  refine⟨by simp[k.len],k.nodup,?_,?_⟩
  ·have e:rowsV gs (ms.set i (l.set j x))=rowsV gs ms:=by
    apply List.ext_getElem?;intro q;unfold rowsV;rw[List.getElem?_zipWith,List.getElem?_zipWith,List.getElem?_set];by_cases c:i=q
    ·subst c
     obtain⟨hlt,he⟩:=List.getElem?_eq_some_iff.1 h2;simp[hlt,h1,he]
    ·simp[c]
   rw[e,List.length_set];exact J0o k.own sg ht (by decide)
  ·intro q b r e1 e2
   rw[List.getElem?_set]at e2;by_cases c:i=q
   ·subst c
    have hlt:=(List.getElem?_eq_some_iff.1 h2).1;rw[if_pos rfl,if_pos hlt]at e2;obtain rfl:l.set j x=r:=by simpa using e2
    obtain rfl:g=b:=by rw[h1]at e1;simpa using e1
    refine⟨(k.blk i g l h1 h2).1,?_⟩;have:=hb.put j (V x)
    have e:(J2l l).setIfInBounds j (V x)=J2l (l.set j x):=by
     unfold J2l;rw[List.setIfInBounds_toArray,List.map_set]
    rw[e]at this;exact this
   ·rw[if_neg c]at e2
    refine⟨(k.blk q b r e1 e2).1,(k.blk q b r e1 e2).2.other (fun e=>c ?_) _ _⟩;subst e;have a1:=(List.getElem?_eq_some_iff.1 h1);have a2:=(List.getElem?_eq_some_iff.1 e1);obtain⟨b1,b2⟩:=a1;obtain⟨b3,b4⟩:=a2;exact(List.getElem_inj k.nodup).1 (b2.trans b4.symm)
 refine⟨⟨h.blk.keptT sg ht (fun e=>h.ty.2.2.2 e.symm),h.lo,h.ty,J0o h.ownR sg ht (by decide),J0o h.ownC sg ht (by decide),gs,hW⟩,hW⟩
theorem Ply.newP(h:Ply T B G rs cs ms rv cv mv w){rs':List (Int × Bool)}{cs':List Ins}{rv' cv':Value}(o1:w.ownsRow B 76 2 rv' rs'.length (celR rs'))(o2:w.ownsRow B 41 5 cv' cs'.length (celI cs')):
  Ply T B G rs' cs' ms rv' cv' mv ((w.setCell ⟨G,0,none⟩ rv').setCell ⟨G,1,none⟩ cv'):=by
 have hG:=h.blk.ofType;have hB:Blk (w.setCell ⟨G,0,none⟩ rv') G #[rv',cv,mv] T:=by simpa using h.blk.put 0 rv'
 have hG2:=hB.ofType;obtain⟨gs,hg⟩:=h.mem;refine⟨by simpa using hB.put 1 cv',h.lo,h.ty,?_,?_,gs,?_⟩
 ·exact J0o (J0o o1 (J0l _ _ _ _) hG h.ty.1) (J0l _ _ _ _) hG2 h.ty.1
 ·exact J0o (J0o o2 (J0l _ _ _ _) hG h.ty.2.1) (J0l _ _ _ _) hG2 h.ty.2.1
 ·exact(hg.keptT (J0l _ _ _ _) hG h.ty.2.2.1 h.ty.2.2.2).keptT (J0l _ _ _ _) hG2 h.ty.2.2.1 h.ty.2.2.2
theorem Ply.pin(h:Ply T B G rs cs ms rv cv mv w):∃l:Loc,rv=.slice l.ra rs.length l.rc/\cv=.slice l.ca cs.length l.cc/\PIn w (prgOf rs cs) l:=by
 have hR:∃(ra:Option Addr) (rb rc:Nat),rv=.slice ra rs.length rc/\(0 < rs.length->ra=some ⟨rb,0,none⟩)/\RegsAt w rb 0 rs.length (prgOf rs cs).log (prgOf rs cs).sec:=by
  by_cases h0:0 < rs.length
  ·obtain⟨g,c,hv,hlo,_⟩:=h.ownR.form h0
   subst hv;refine⟨_,g,c,rfl,fun _=>rfl,fun i hi=>?_⟩;have e:=Jdq rs i _ (List.getElem?_eq_getElem hi);have e1:(prgOf rs cs).log i=rs[i].1:=by simp[prgOf,List.getD_eq_getElem?_getD,List.getElem?_eq_getElem hi]
   have e2:(prgOf rs cs).sec i=rs[i].2:=by simp[prgOf,List.getD_eq_getElem?_getD,List.getElem?_eq_getElem hi]
   rw[e1,e2];simp only[Nat.zero_add];exact⟨by rw[World.ownsRow.cellAt h.ownR _ (by omega)];exact e.1,by rw[World.ownsRow.cellAt h.ownR _ (by omega)];exact e.2⟩
  ·rcases h.ownR.2 with⟨rfl,e⟩ | ⟨g,cap,_,rfl,_⟩
   ·exact⟨none,0,0,by rw[e],fun h=>absurd h h0,fun i hi=>absurd (show 0 < rs.length by omega) h0⟩
   ·exact⟨_,0,_,rfl,fun h=>absurd h h0,fun i hi=>absurd (show 0 < rs.length by omega) h0⟩
 have hC:∃(ca:Option Addr) (cb cc:Nat),cv=.slice ca cs.length cc/\(0 < cs.length->ca=some ⟨cb,0,none⟩)/\CodeAt w cb 0 cs.length (prgOf rs cs).ins:=by
  by_cases h0:0 < cs.length
  ·obtain⟨g,c,hv,hlo,_⟩:=h.ownC.form h0
   subst hv;refine⟨_,g,c,rfl,fun _=>rfl,fun i hi=>?_⟩;have e:=Jdp cs i _ (List.getElem?_eq_getElem hi);have e1:(prgOf rs cs).ins i=cs[i]:=by simp[prgOf,List.getD_eq_getElem?_getD,List.getElem?_eq_getElem hi]
   rw[e1];simp only[Nat.zero_add];exact⟨by rw[World.ownsRow.cellAt h.ownC _ (by omega)];exact e.1,by rw[World.ownsRow.cellAt h.ownC _ (by omega)];exact e.2.1,by rw[World.ownsRow.cellAt h.ownC _ (by omega)];exact e.2.2.1,by rw[World.ownsRow.cellAt h.ownC _ (by omega)];exact e.2.2.2.1,by rw[World.ownsRow.cellAt h.ownC _ (by omega)];exact e.2.2.2.2⟩
  ·rcases h.ownC.2 with⟨rfl,e⟩ | ⟨g,cap,_,rfl,_⟩
   ·exact⟨none,0,0,by rw[e],fun h=>absurd h h0,fun i hi=>absurd (show 0 < cs.length by omega) h0⟩
   ·exact⟨_,0,_,rfl,fun h=>absurd h h0,fun i hi=>absurd (show 0 < cs.length by omega) h0⟩
 obtain⟨ra,rb,rc,r1,r2,r3⟩:=hR;obtain⟨ca,cb,cc,c1,c2,c3⟩:=hC;exact⟨⟨ra,rb,0,rc,ca,cb,0,cc⟩,r1,c1,⟨fun h=>r2 h,fun h=>c2 h,r3,c3⟩⟩
def memOf(ms:List (List Int)):Mem:=⟨ms.length,fun i=>(ms.getD i []).length,fun i j=>(ms.getD i []).getD j 0⟩
theorem Words.raw{gs:List Nat}(k:Words B gs ms mv w):∃ml:MLoc,mv=.slice ml.ma ms.length ml.mc/\MRaw w (memOf ms) ml:=by
 have cells:∀i,i < ms.length->∃g l,gs[i]?=some g/\ms[i]?=some l/\(rowsV gs ms)[i]?=some (.slice (some ⟨g,0,none⟩) l.length l.length)/\(memOf ms).len i=l.length/\∀j,(memOf ms).wd i j=l.getD j 0:=fun i hi=>by
  have hg:i < gs.length:=by rw[k.len];exact hi
  refine⟨gs[i],ms[i],List.getElem?_eq_getElem hg,List.getElem?_eq_getElem hi,?_,?_,fun j=>?_⟩
  ·unfold rowsV;rw[List.getElem?_zipWith,List.getElem?_eq_getElem hg,List.getElem?_eq_getElem hi]
  ·simp[memOf,List.getD_eq_getElem?_getD,List.getElem?_eq_getElem hi]
  ·simp[memOf,List.getD_eq_getElem?_getD,List.getElem?_eq_getElem hi]
 by_cases h0:0 < ms.length
 ·obtain⟨g,c,hv,hlo,_⟩:=k.own.form h0
  subst hv;refine⟨⟨some ⟨g,0,none⟩,g,0,c,fun i=>some ⟨gs.getD i 0,0,none⟩,fun i=>(memOf ms).len i,fun i=>gs.getD i 0,fun _=>0⟩,rfl,fun _=>rfl,fun i hi=>?_,fun _ _ _=>rfl,fun i hi j hj=>?_⟩
  ·have hi:i < ms.length:=hi
   obtain⟨b,l,e1,e2,e3,e4,_⟩:=cells i hi;dsimp only;rw[Nat.zero_add,World.ownsRow.cellAt k.own i (by omega),e3,e4,List.getD_eq_getElem?_getD,e1]
   rfl
  ·have hi:i < ms.length:=hi
   obtain⟨b,l,e1,e2,e3,e4,e5⟩:=cells i hi;dsimp only at hj |-;rw[e4]at hj;rw[e5,List.getD_eq_getElem?_getD,e1,Nat.zero_add];refine(k.blk i b l e1 e2).2.cell ?_;simp[J2l,List.getD_eq_getElem?_getD,List.getElem?_eq_getElem hj]
 ·have e0:ms.length=0:=by omega
  rcases k.own.2 with⟨rfl,e⟩ | ⟨g,cap,_,rfl,_⟩
  ·exact⟨⟨none,0,0,0,fun _=>none,fun _=>0,fun _=>0,fun _=>0⟩,by rw[e],fun h=>absurd h h0,fun i hi=>absurd (show 0 < ms.length from Nat.lt_of_le_of_lt (Nat.zero_le _) hi) h0,fun i hi=>absurd (show 0 < ms.length from Nat.lt_of_le_of_lt (Nat.zero_le _) hi) h0,fun i hi=>absurd (show 0 < ms.length from Nat.lt_of_le_of_lt (Nat.zero_le _) hi) h0⟩
  ·exact⟨⟨_,0,0,_,fun _=>none,fun _=>0,fun _=>0,fun _=>0⟩,rfl,fun h=>absurd h h0,fun i hi=>absurd (show 0 < ms.length from Nat.lt_of_le_of_lt (Nat.zero_le _) hi) h0,fun i hi=>absurd (show 0 < ms.length from Nat.lt_of_le_of_lt (Nat.zero_le _) hi) h0,fun i hi=>absurd (show 0 < ms.length from Nat.lt_of_le_of_lt (Nat.zero_le _) hi) h0⟩
end
end
section
open Go
section
variable {P:Program} {ops:Array Oper} {Q:Exit->Act->World->Prop} {md:Region.Mode} {S:World->Prop} {ex:List Nat}

def Jag(ex:List Nat)(md:Region.Mode)(ops:Array Oper)(j:Nat):Bool:=
 match ops[j]? with
 | none=>false
 | some o=>(List.range ops.size).all fun i=>i==j||ex.contains i||o.after.any fun e=>Region.binds md e&&e.on==i

def AnyM(ex:List Nat)(P:Program)(md:Region.Mode)(ops:Array Oper)(Q:Exit->Act->World->Prop)(S:World->Prop):Nat->Array Bool->Act->World->Prop
 | 0,l,a,w=>Region.ready md ops l=[]/\Q .normal a w
 | n+1,l,a,w=>(Region.ready md ops l=[]->Q .normal a w)/\∀i ∈ Region.ready md ops l,wpOp P ops Q i (fun a' w'=>(Jag ex md ops i=false->S w->S w')/\AnyM ex P md ops Q S n (l.setIfInBounds i true) a' w') a w

theorem AnyM.any:∀(n:Nat) (l:Array Bool) (a:Act) (w:World),AnyM ex P md ops Q S n l a w->wpAny P md ops Q n l a w
 | 0,_,_,_,h=>h
 | n+1,_,_,_,h=>⟨h.1,fun i hi=>wpOp_mono (fun a' w' h'=>AnyM.any n _ a' w' h'.2) (h.2 i hi)⟩

theorem Jju{i j:Nat}{l:Array Bool}(hex:ex.contains i=false)(hi:i ∈ Region.ready md ops l)(hj:j ∈ Region.ready md ops l)(hne:j≠i):Jag ex md ops j=false:=by
 cases hb:Jag ex md ops j with
 | false=>rfl
 | true=>
  exfalso
  obtain⟨_,oj,hoj,hall⟩:=mem_ready.1 hj;obtain⟨hun,oi,hoi,_⟩:=mem_ready.1 hi;unfold Jag at hb;rw[hoj]at hb;dsimp only at hb;rw[List.all_eq_true]at hb;have h1:=hb i (List.mem_range.2 (Array.getElem?_eq_some_iff.1 hoi).1);rw[Bool.or_eq_true,Bool.or_eq_true,hex]at h1;rcases h1 with(h1 | h1) | h1
  rotate_left
  ·cases h1
  rotate_left
  ·exact hne (by simpa using h1:i=j).symm
  ·obtain⟨e,he,hbe⟩:=Array.any_eq_true'.1 h1
   rw[Bool.and_eq_true,beq_iff_eq]at hbe;have h2:=hall e he hbe.1;rw[hbe.2]at h2;rcases Nat.lt_or_ge i l.size with h' | h'
   ·simp[h']at hun h2;rw[hun]at h2;cases h2
   ·simp[Array.getElem?_eq_none h']at h2

theorem AnyM.take{i:Nat}{oi:Oper}{v:Value}(hi:ops[i]?=some oi)(hs:Region.noSelect ops=true)(hQ:∀c a w,Q (.panic c) (a.put oi.dst v) w->Q (.panic c) a w):
  ∀(n:Nat) (l:Array Bool) (a:Act) (w:World),(∀j oj,ops[j]?=some oj->j≠i->l.getD j true=false->(∀e ∈ oj.after,Region.binds md e=true->e.on≠i)->oi.apart ops oj=true)->
   i ∈ Region.ready md ops l->YieldsIf P ops (fun w=>ex.contains i=false->S w) oi v a->(ex.contains i=false->S w)->AnyM ex P md ops Q S n (l.setIfInBounds i true) (a.put oi.dst v) w->AnyM ex P md ops Q S (n+1) l a w
 | n,l,a,w,hf,hr,hy,hS,H=>by
  refine⟨fun h=>absurd hr (by rw[h];simp),fun j hj=>?_⟩;by_cases hji:j=i
  ·subst hji
   exact hy.wpOp hi hS ⟨fun _ h=>h,H⟩
  have hjm:=ready_mono hj hji;cases n with
  | zero=>rw[H.1]at hjm;cases hjm
  | succ n=>
   obtain⟨hjun,oj,hoj,hall⟩:=mem_ready.1 hj
   have hno:∀e ∈ oj.after,Region.binds md e=true->e.on≠i:=fun e he hb hei=>by
    have h1:=hall e he hb;have h0:=(mem_ready.1 hr).1;rw[hei]at h1;rcases Nat.lt_or_ge i l.size with h' | h'
    ·simp[h']at h0 h1;rw[h0]at h1;cases h1
    ·simp[Array.getElem?_eq_none h']at h1
   have h2:=wpOp_putIf hoj (hf j oj hoj hji hjun hno) (fun cs b=>Region.noSelect_spec hs i oi cs b hi) (fun cs b=>Region.noSelect_spec hs j oj cs b hoj) hQ hy (H.2 j hjm);refine wpOp_mono (fun a' w' h3=>?_) h2;refine⟨h3.2.1,AnyM.take hi hs hQ n (l.setIfInBounds j true) a' w' (fun k ok hk hki hun hno'=>hf k ok hk hki ?_ hno') (ready_mono hr (Ne.symm hji)) h3.1 (fun hx=>h3.2.1 (Jju hx hr hj hji) (hS hx)) ?_⟩
   ·by_cases e:j=k
    ·subst e;exact hjun
    ·rw[getD_set_ne true e]at hun;exact hun
   ·rw[Array.setIfInBounds_comm _ _ hji]
    exact h3.2.2

def J6s(ex:List Nat)(P:Program)(ops:Array Oper)(Q:Exit->Act->World->Prop)(S:World->Prop):List (Nat × Bool)->Act->World->Prop
 | [],a,w=>Q .normal a w
 | (i,t)::rest,a,w=>
  match ops[i]? with
  | none=>False
  | some o=>if t then J2c P ops (fun w'=>ex.contains i=false->S w') o a w (fun a' w'=>J6s ex P ops Q S rest a' w') else J23 P ops Q o a w (fun a' w'=>(Jag ex .any ops i=false->S w')/\(rest≠[]->S w')/\J6s ex P ops Q S rest a' w')

theorem J3y(hs:Region.noSelect ops=true)(hQ:∀c (a:Act) d v w,Q (.panic c) (a.put d v) w->Q (.panic c) a w):
  ∀(l:List (Nat × Bool)) (listed:Array Bool) (a:Act) (w:World),ordB .any ops l listed=true->(l≠[]->S w)->J6s ex P ops Q S l a w->AnyM ex P .any ops Q S l.length listed a w
 | [],listed,a,w,hB,_,h=>⟨by simpa[ordB]using hB,h⟩
 | (i,t)::rest,listed,a,w,hB,hS,h=>by
  replace hS:S w:=hS (by simp);simp only[ordB,Bool.and_eq_true]at hB;obtain⟨⟨ho,hc⟩,hB'⟩:=hB;obtain⟨o,ho⟩:=Option.isSome_iff_exists.1 ho;simp only[J6s,ho]at h;cases t with
  | true=>
   simp only[if_true,Bool.and_eq_true]at hc h;unfold J2c at h;have hr:i ∈ Region.ready .any ops listed:=by simpa using hc.2
   by_cases hw:Region.wanted o (yielded ops a.tmps)=true
   ·rw[if_pos hw]at h
    obtain⟨v,hv,hk⟩:=h;exact AnyM.take ho hs (fun c a w=>hQ c a _ _ w) _ _ _ _ (Region.free_spec ho hc.1) hr (.inl ⟨hw,fun w' hw'=>hv ⟨w',hw'⟩⟩) (fun _=>hS) (J3y hs hQ rest _ _ _ hB' (fun _=>hS) hk)
   ·rw[if_neg hw]at h
    exact AnyM.take ho hs (fun c a w=>hQ c a _ _ w) _ _ _ _ (Region.free_spec ho hc.1) hr (.inr ⟨by simpa using hw,rfl⟩) (fun _=>hS) (J3y hs hQ rest _ _ _ hB' (fun _=>hS) h)
  | false=>
   simp only[Bool.false_eq_true,if_false,beq_iff_eq]at hc h;refine⟨fun h0=>absurd (hc.symm.trans h0) (by simp),fun j hj=>?_⟩;obtain rfl:j=i:=by rw[hc]at hj;simpa using hj
   unfold J23 at h;unfold wpOp;rw[ho];show if Region.wanted o (yielded ops a.tmps)=true then _ else _
   by_cases hw:Region.wanted o (yielded ops a.tmps)=true
   ·rw[if_pos hw]at h |-
    exact .inl (Oper.wp_mono (fun a' w' h'=>⟨fun hb _=>h'.1 hb,J3y hs hQ rest _ _ _ hB' h'.2.1 h'.2.2⟩) h)
   ·rw[if_neg hw]at h |-
    exact⟨fun hb _=>h.1 hb,J3y hs hQ rest _ _ _ hB' h.2.1 h.2.2⟩

structure OrdM(ex:List Nat)(P:Program)(ops:Array Oper)(Q:Exit->Act->World->Prop)(S:World->Prop)(l:List (Nat × Bool))(a:Act)(w:World):Prop where
 out:J6s ex P ops Q S l a w

theorem J1m{id:Nat}{a:Act}{w:World}(ex:List Nat)(l:List (Nat × Bool))(hm:P.follows .mixedOrders=true)(hs:Region.noSelect ops=true)
  (hB:(ordB .any ops l (Array.replicate ops.size false)&&l.length==ops.size)=true) (hS:S w.drew) (h:OrdM ex P ops (NoPanic Q) S l a w.drew):(Code.region id ops true).wp P Q a w:=by
 rw[Bool.and_eq_true]at hB;have hl:l.length=ops.size:=by simpa using hB.2
 refine wp_region_noPanic (wp_region_any hm ?_);rw[<-hl];have:=J3y (ex:=ex) (P:=P) (S:=S) (Q:=NoPanic Q) hs (fun _ _ _ _ _ h=>h) l (Array.replicate ops.size false) a w.drew hB.1 (fun _=>hS) h.out;have:=this.any
 rwa [<-hl]at this

theorem J3d{ls:List Oper}{i:Nat}{o:Oper}{rest:List (Nat × Bool)}{a:Act}{w:World}(ho':nth ls i=some o)(hw:Region.wanted o (yielded ls.toArray a.tmps)=true)
  (h:∀K:Act->World->Prop,(∀a w,OrdM ex P ls.toArray Q S rest a w->K a w)->∃v,(∀w':World,(execOp a.eval o).run P w'=.ok (.value v) w')/\K (a.put o.dst v) w):
  OrdM ex P ls.toArray Q S ((i,true)::rest) a w:=by
 have ho:=J26 ho';refine⟨?_⟩;simp only[J6s,ho];unfold J2c;simp only[if_true];rw[if_pos hw];obtain⟨v,h1,h2⟩:=h _ (fun _ _ h=>h.out);exact⟨v,fun i=>h1 _,h2⟩
theorem J13{ls:List Oper}{i:Nat}{o:Oper}{rest:List (Nat × Bool)}{a:Act}{w:World}(ho':nth ls i=some o)(hw:Region.wanted o (yielded ls.toArray a.tmps)=true)(hx:ex.contains i=false)
  (h:∀K:Act->World->Prop,(∀a w,OrdM ex P ls.toArray Q S rest a w->K a w)->∃v,(∀i:{ w' // S w' },(execOp a.eval o).run P i.val=.ok (.value v) i.val)/\K (a.put o.dst v) w):
  OrdM ex P ls.toArray Q S ((i,true)::rest) a w:=by
 have ho:=J26 ho';refine⟨?_⟩;simp only[J6s,ho];unfold J2c;simp only[if_true];rw[if_pos hw];obtain⟨v,h1,h2⟩:=h _ (fun _ _ h=>h.out);exact⟨v,fun i=>h1 ⟨i.val,i.property hx⟩,h2⟩
theorem J0x{ls:List Oper}{i:Nat}{o:Oper}{rest:List (Nat × Bool)}{a:Act}{w:World}(ho':nth ls i=some o)(hw:Region.wanted o (yielded ls.toArray a.tmps)=true)
  (h:∀K:Act->World->Prop,(∀a w,S w->OrdM ex P ls.toArray Q S rest a w->K a w)->Oper.wp P o a w K Q):OrdM ex P ls.toArray Q S ((i,false)::rest) a w:=by
 have ho:=J26 ho';refine⟨?_⟩;simp only[J6s,ho,Bool.false_eq_true,if_false];unfold J23;rw[if_pos hw];exact h _ (fun _ _ hs h=>⟨fun _=>hs,fun _=>hs,h.out⟩)
theorem J2q{ls:List Oper}{i:Nat}{o:Oper}{a:Act}{w:World}(ho':nth ls i=some o)(hw:Region.wanted o (yielded ls.toArray a.tmps)=true)(hl:Jag ex .any ls.toArray i=true)
  (h:∀K:Act->World->Prop,(∀a w,Q .normal a w->K a w)->Oper.wp P o a w K Q):OrdM ex P ls.toArray Q S [(i,false)] a w:=by
 have ho:=J26 ho';refine⟨?_⟩;simp only[J6s,ho,Bool.false_eq_true,if_false];unfold J23;rw[if_pos hw];exact h _ (fun _ _ h=>⟨fun e=>absurd (hl.symm.trans e) (by simp),fun e=>absurd rfl e,h⟩)
end
end
section
open Go.RowKit
set_option linter.unusedVariables false
theorem J4s{i:Ins}(h:i.op=3\/i.op=5):putI i=0:=by unfold putI;rw[if_pos h]
theorem J6e{i:Ins}(h:i.op=4\/i.op=6):putI i=1:=by unfold putI;rw[if_neg (by omega),if_pos h]
theorem Jo2{i:Ins}(h3:¬i.op=3)(h4:¬i.op=4)(h5:¬i.op=5)(h6:¬i.op=6):putI i = -1:=by unfold putI;rw[if_neg (by omega),if_neg (by omega)]
structure Pl where
 at_:Nat
 r:Nat->Int
 wd:Nat->Int
 past:Nat->List Int

structure Sp where
 pl:Pl
 ahead:Bool
 since:Int
 back:Pl
 script:List Int
 seen:List Se

def setF{α:Type}(f:Nat->α)(k:Nat)(v:α):Nat->α:=fun j=>if j=k then v else f j
def Sp.choice(s:Sp):Int:=s.script.headD 0
def Sp.leave(s:Sp):Sp:=if s.ahead=true then s else { s with ahead:=true,since := -1,back:=s.pl }
def Sp.returns(s:Sp):Sp:={ s with seen:=s.seen++[⟨4,0,0⟩],ahead:=false,pl:=s.back }
def allI(p:Prg):Int:=baseI p.log p.rl

def Sp.see(s:Sp)(x:Se):Sp:={ s with seen:=s.seen++[x]}
def Sp.go(s:Sp)(n:Nat):Sp:={ s with pl:={ s.pl with at_:=n } }
def Sp.reg(s:Sp)(a v:Int):Sp:={ s with pl:={ s.pl with r:=setR s.pl.r a v } }

def wordS(p:Prg)(s:Sp)(i:Ins)(n:Int):Sp:=
 if n < 0\/allI p<=n then(if putI i=0 then s.reg i.a 0 else s)
 else if putI i=1 then { s with pl:={ s.pl with past:=setF s.pl.past n.toNat (s.pl.past n.toNat++[s.pl.wd n.toNat]),wd:=setF s.pl.wd n.toNat (s.pl.r i.a.toNat)} }
 else
  if 0 < s.choice/\s.choice<=((s.pl.past n.toNat).length:Int) then
   (({ s with script:=s.script.tail }.reg i.a (s.pl.wd n.toNat)).leave).reg i.a ((s.pl.past n.toNat).getD ((s.pl.past n.toNat).length - s.choice.toNat) 0)
  else { s with script:=s.script.tail }.reg i.a (s.pl.wd n.toNat)

def stepS(p:Prg)(s:Sp):Sp × Bool × Option (Int × Int):=
 if(p.ins s.pl.at_).op=7 then(((s.see ⟨1,s.pl.at_,0⟩).go (p.ins s.pl.at_).n.toNat),false,none)
 else if(p.ins s.pl.at_).op=8 then
  (if J1n (p.ins s.pl.at_).c (s.pl.r (p.ins s.pl.at_).a.toNat) (s.pl.r (p.ins s.pl.at_).b.toNat)=true then
   (if s.choice=0 then { (s.see ⟨1,s.pl.at_,0⟩).go (p.ins s.pl.at_).n.toNat with script:=s.script.tail } else({ (s.see ⟨1,s.pl.at_,0⟩).go (p.ins s.pl.at_).n.toNat with script:=s.script.tail }.leave).go (s.pl.at_+1),false,none)
  else
   (if s.choice=0 then { (s.see ⟨1,s.pl.at_,0⟩).go (s.pl.at_+1) with script:=s.script.tail } else({ (s.see ⟨1,s.pl.at_,0⟩).go (s.pl.at_+1) with script:=s.script.tail }.leave).go (p.ins s.pl.at_).n.toNat,false,none))
 else if(p.ins s.pl.at_).op=9/\s.ahead=false then(s.see ⟨1,s.pl.at_,0⟩,false,some (1,s.pl.r (p.ins s.pl.at_).a.toNat))
 else if(p.ins s.pl.at_).op=9\/(p.ins s.pl.at_).op=12 then((s.see ⟨1,s.pl.at_,0⟩).go (s.pl.at_+1),true,none)
 else if 0<=putI (p.ins s.pl.at_) then
  if s.ahead=false/\(idxI s.pl.r (p.ins s.pl.at_) < 0\/J0h (p.log (p.ins s.pl.at_).c.toNat)<=idxI s.pl.r (p.ins s.pl.at_)) then(s.see ⟨1,s.pl.at_,0⟩,false,some (2,0))
  else(wordS p (((s.see ⟨1,s.pl.at_,0⟩).see ⟨2,wrap64 (baseI p.log (p.ins s.pl.at_).c.toNat+idxI s.pl.r (p.ins s.pl.at_)),putI (p.ins s.pl.at_)⟩).go (s.pl.at_+1)) (p.ins s.pl.at_) (wrap64 (baseI p.log (p.ins s.pl.at_).c.toNat+idxI s.pl.r (p.ins s.pl.at_))),false,none)
 else({ (s.see ⟨1,s.pl.at_,0⟩).go (s.pl.at_+1) with pl:=⟨s.pl.at_+1,(regsI s.pl.r (p.ins s.pl.at_)).1,s.pl.wd,s.pl.past⟩,seen:=s.seen++[⟨1,s.pl.at_,0⟩]++(regsI s.pl.r (p.ins s.pl.at_)).2 },false,none)

def Sp.after(s:Sp)(over:Bool):Sp:=
 if s.ahead=true then(if over=true\/s.since+1=12 then({ s with since:=s.since+1 }).returns else { s with since:=s.since+1 }) else s

structure ShF where
 fin:Int
 val:Int
 steps:Int
 seen:List Se
 wd:Nat->Int

def Sp.noneLeft(s:Sp)(cl:Nat):Sp:=if cl<=s.pl.at_/\s.ahead=true then s.returns else s
def Sp.real(s:Sp):Pl:=if s.ahead=true then s.back else s.pl

def runS(p:Prg):Nat->Nat->Sp->ShF
 | 0,k,s=>⟨0,0,k,s.seen,s.real.wd⟩
 | f+1,k,s=>
  if p.cl<=(s.noneLeft p.cl).pl.at_ then⟨2,0,k,(s.noneLeft p.cl).seen,(s.noneLeft p.cl).real.wd⟩
  else match (stepS p (s.noneLeft p.cl)).2.2 with
   | some e=>⟨e.1,e.2,(k:Int)+1,(stepS p (s.noneLeft p.cl)).1.seen,(stepS p (s.noneLeft p.cl)).1.real.wd⟩
   | none=>runS p f (k+1) ((stepS p (s.noneLeft p.cl)).1.after (stepS p (s.noneLeft p.cl)).2.1)

def playS(p:Prg)(wd:Nat->Int)(script:List Int)(fuel:Nat):ShF:=runS p fuel 0 ⟨⟨0,fun _=>0,wd,fun _=>[]⟩,false,0,⟨0,fun _=>0,wd,fun _=>[]⟩,script,[]⟩
end
section
open Go.RowKit
set_option linter.unusedSimpArgs false
set_option linter.unusedVariables false
section
variable {p:Prg} {W:Int->Prop} {lab:Nat->Nat->Bool} {I:Nat->(Nat->Int)->Prop}

end
end
section
open Go.RowKit
set_option linter.unusedVariables false
section
variable {p:Prg} {i:Ins} {k:KS} {r:Nat->Int}

end

section
variable {p:Prg} {m:Mem} {l:KV} {s:St}

end
section
variable {p:Prg} {m m':Mem} {l:KV} {s t:St}

end
end
section
open Go.RowKit
set_option linter.unusedSimpArgs false
set_option linter.unusedVariables false
def sizeK(p:Prg)(k:Nat):Nat:=if(p.ins k).op=3\/(p.ins k).op=4 then 3 else 1

structure Hdn(p h:Prg)(st:Nat->Nat)(X:Int):Prop where
 x:X=8\/X=9
 rl:p.rl=h.rl
 reg:∀i,i < p.rl->p.log i=h.log i/\p.sec i=h.sec i
 s0:st 0=0
 next:∀k,k < p.cl->st (k+1)=st k+sizeK p k
 cl:h.cl=st p.cl
 mem:∀k,k < p.cl->(p.ins k).op=3\/(p.ins k).op=4->h.ins (st k)=⟨10,X,(p.ins k).b,0,(p.ins k).n⟩/\h.ins (st k+1)=⟨11,X,0,0,J0h (p.log (p.ins k).c.toNat)⟩/\h.ins (st k+2)=⟨(p.ins k).op,(p.ins k).a,X,(p.ins k).c,0⟩
 go:∀k,k < p.cl->(p.ins k).op=7\/(p.ins k).op=8->h.ins (st k)=⟨(p.ins k).op,(p.ins k).a,(p.ins k).b,(p.ins k).c,(st (p.ins k).n.toNat:Int)⟩
 copy:∀k,k < p.cl->¬((p.ins k).op=3\/(p.ins k).op=4)->¬((p.ins k).op=7\/(p.ins k).op=8)->h.ins (st k)=p.ins k

theorem J3a(p:Prg)(k:Nat):1<=sizeK p k/\sizeK p k<=3:=by unfold sizeK;split<;>omega
theorem J6k{p:Prg}{k:Nat}(h:(p.ins k).op=3\/(p.ins k).op=4):sizeK p k=3:=by unfold sizeK;rw[if_pos h]
theorem J4z{p:Prg}{k:Nat}(h:¬((p.ins k).op=3\/(p.ins k).op=4)):sizeK p k=1:=by unfold sizeK;rw[if_neg h]

section
variable {p h:Prg} {st:Nat->Nat} {X:Int} {l:KV}

theorem Hdn.mono(S:Hdn p h st X):∀(b a:Nat),a < b->b<=p.cl->st a+sizeK p a<=st b
 | 0,a,h1,_=>absurd h1 (Nat.not_lt_zero _)
 | b+1,a,h1,h2=>by
  have e:=S.next b (by omega);have:=(J3a p b).1;by_cases q:a=b
  ·subst q;omega
  ·have:=S.mono b a (by omega) (by omega);omega
variable {lab:Nat->Nat->Bool}
end
def maskL(p:Prg)(i:Ins):List Ins:=
 if i.op=3\/i.op=4 then[⟨10,8,i.b,0,i.n⟩,⟨11,8,0,0,J0h (p.log i.c.toNat)⟩,⟨i.op,i.a,8,i.c,0⟩] else[i]
section
variable (M:Nat->List Ins)
def codeG:Nat->List Ins
 | 0=>[]
 | n+1=>codeG n++M n
def J0g(n:Nat):Nat:=(codeG M n).length
def leadG(i:Ins):Ins:=if i.op=7\/i.op=8 then⟨i.op,i.a,i.b,i.c,(J0g M i.n.toNat:Int)⟩ else i
def hardG(cl q:Nat):Ins:=leadG M ((codeG M cl).getD q ⟨0,0,0,0,0⟩)
theorem J94(n:Nat):J0g M (n+1)=J0g M n+(M n).length:=by
 unfold J0g;rw[codeG,List.length_append]
theorem Jfl:∀(n k o:Nat),k < n->o < (M k).length->(codeG M n)[J0g M k+o]?=(M k)[o]?
 | 0,k,o,h,_=>absurd h (Nat.not_lt_zero _)
 | n+1,k,o,h,ho=>by
  rw[codeG];by_cases e:k=n
  ·subst e
   rw[List.getElem?_append_right (by unfold J0g;omega)]
   congr 1
   unfold J0g;omega
  ·have h2:=Jfl n k o (by omega) ho
   have hlt:J0g M k+o < (codeG M n).length:=by
    have e1:(M k)[o]?≠none:=by
     rw[Ne,List.getElem?_eq_none_iff];omega
    rw[<-h2]at e1;rw[Ne,List.getElem?_eq_none_iff]at e1;omega
   rw[List.getElem?_append_left hlt];exact h2
theorem Jb2{cl k o:Nat}{i:Ins}(hk:k < cl)(e:(M k)[o]?=some i):hardG M cl (J0g M k+o)=leadG M i:=by
 unfold hardG;rw[List.getD_eq_getElem?_getD,Jfl M cl k o hk (List.getElem?_eq_some_iff.1 e).1,e]
 rfl
theorem J31{i:Ins}(h:¬(i.op=7\/i.op=8)):leadG M i=i:=by unfold leadG;rw[if_neg h]
end
abbrev maskK(p:Prg)(n:Nat):List Ins:=maskL p (p.ins n)
abbrev codeL(p:Prg):Nat->List Ins:=codeG (maskK p)
abbrev J0c(p:Prg):Nat->Nat:=J0g (maskK p)
abbrev hardL(p:Prg):Nat->Ins:=hardG (maskK p) p.cl
def hardP(p:Prg):Prg:=⟨p.rl,p.log,p.sec,J0c p p.cl,hardL p⟩

theorem J3g(p:Prg)(n:Nat):(maskL p (p.ins n)).length=sizeK p n:=by
 unfold maskL sizeK
 split<;>rfl
theorem J3b(p:Prg)(n:Nat):J0c p (n+1)=J0c p n+sizeK p n:=(J94 _ n).trans (by rw[J3g])
theorem J2o(p:Prg):∀n,J0c p n<=3*n
 | 0=>Nat.le_refl _
 | n+1=>by
  have:=J2o p n;have:=(J3a p n).2;rw[J3b];omega
theorem J6b(p:Prg)(k o:Nat)(i:Ins)(hk:k < p.cl)(e:(maskL p (p.ins k))[o]?=some i):hardL p (J0c p k+o)=leadG (maskK p) i:=Jb2 _ hk e

theorem J6c(p:Prg):Hdn p (hardP p) (J0c p) 8:=by
 refine⟨.inl rfl,rfl,fun i hi=>⟨rfl,rfl⟩,rfl,fun k hk=>J3b p k,rfl,fun k hk hm=>?_,fun k hk hg=>?_,fun k hk hm hg=>?_⟩
 ·have hs:=J6k hm
  have e:maskL p (p.ins k)=[⟨10,8,(p.ins k).b,0,(p.ins k).n⟩,⟨11,8,0,0,J0h (p.log (p.ins k).c.toNat)⟩,⟨(p.ins k).op,(p.ins k).a,8,(p.ins k).c,0⟩]:=by unfold maskL;rw[if_pos hm]
  refine⟨?_,?_,?_⟩
  ·have:=J6b p k 0 _ hk (by rw[e];rfl)
   rw[J31 _ (by dsimp only;omega)]at this;exact this
  ·have:=J6b p k 1 _ hk (by rw[e];rfl)
   rw[J31 _ (by dsimp only;omega)]at this;exact this
  ·have:=J6b p k 2 _ hk (by rw[e];rfl)
   rw[J31 _ (by dsimp only;omega)]at this;exact this
 ·have hs:sizeK p k=1:=J4z (by omega)
  have e:maskL p (p.ins k)=[p.ins k]:=by unfold maskL;rw[if_neg (by omega)]
  have:=J6b p k 0 _ hk (by rw[e];rfl);unfold leadG at this;rw[if_pos hg]at this;exact this
 ·have hs:sizeK p k=1:=J4z hm
  have e:maskL p (p.ins k)=[p.ins k]:=by unfold maskL;rw[if_neg hm]
  have:=J6b p k 0 _ hk (by rw[e];rfl);rw[J31 _ hg]at this;exact this

def flatI:List Ins->List Value
 | []=>[]
 | i::l=>V i.op::V i.a::V i.b::V i.c::V i.n::flatI l
theorem J4n:∀l:List Ins,(flatI l).length=l.length*5
 | []=>rfl
 | s::l=>by simp[flatI,J4n l];omega
theorem J4m:∀l l':List Ins,flatI (l++l')=flatI l++flatI l'
 | [],_=>rfl
 | s::l,l'=>by simp[flatI,J4m l l']
theorem Jfp:∀(l:List Ins) (i:Nat) (s:Ins),l[i]?=some s->(flatI l)[i*5]?=some (V s.op)/\(flatI l)[i*5+1]?=some (V s.a)/\(flatI l)[i*5+2]?=some (V s.b)/\(flatI l)[i*5+3]?=some (V s.c)/\(flatI l)[i*5+4]?=some (V s.n)
 | [],i,s,h=>by simp at h
 | x::l,0,s,h=>by simp at h;subst h;simp[flatI]
 | x::l,i+1,s,h=>by
  have:=Jfp l i s (by simpa using h);rw[show(i+1)*5=i*5+1+1+1+1+1 by omega,flatI];simpa using this
theorem J8e:∀(l:List Ins),∀u ∈ flatI l,u.oneCell'=true
 | [],u,h=>by simp[flatI]at h
 | i::l,u,h=>by
  simp only[flatI,List.mem_cons]at h;rcases h with rfl | rfl | rfl | rfl | rfl | h
  ·rfl
  ·rfl
  ·rfl
  ·rfl
  ·rfl
  ·exact J8e l u h
end
section
open Go.RowKit
set_option linter.unusedVariables false
theorem info2:(Tryz.prog.info? 2).map (fun i=>(i.zero,i.size,i.bytes))=some (some (V 0),1,8):=by kernel_rfl
def flatS:List Se->List Value
 | []=>[]
 | s::l=>V s.kind::V s.a::V s.b::flatS l
theorem J7g:∀l l':List Se,flatS (l++l')=flatS l++flatS l'
 | [],_=>rfl
 | s::l,l'=>by simp[flatS,J7g l l']
theorem Jfr:∀(l:List Se) (i:Nat) (s:Se),l[i]?=some s->(flatS l)[i*3]?=some (V s.kind)/\(flatS l)[i*3+1]?=some (V s.a)/\(flatS l)[i*3+2]?=some (V s.b)
 | [],i,s,h=>by simp at h
 | x::l,0,s,h=>by simp at h;subst h;simp[flatS]
 | x::l,i+1,s,h=>by
  have:=Jfr l i s (by simpa using h);rw[show(i+1)*3=i*3+1+1+1 by omega,flatS];simpa using this

def SeenOwn(w:World)(base:Nat)(v:Value)(l:List Se):Prop:=w.ownsRow base 165 3 v l.length (flatS l)

theorem SeenOwn.at_{w:World}{base:Nat}{v:Value}{l:List Se}(h:SeenOwn w base v l)(hb:l.length < 4611686018427387904):Jfb w v l:=by
 by_cases h0:l.length=0
 ·rcases h.2 with⟨rfl,_⟩ | ⟨g,cap,cur,rfl,_⟩
  ·have:l=[]:=List.eq_nil_of_length_eq_zero h0
   subst this;exact⟨none,0,0,0,rfl,fun h=>absurd h (Nat.not_lt_zero _),fun i s h=>by simp at h,by simp⟩
  ·have:l=[]:=List.eq_nil_of_length_eq_zero h0
   subst this;exact⟨_,0,0,cap,rfl,fun h=>absurd h (Nat.not_lt_zero _),fun i s h=>by simp at h,by simp⟩
 ·obtain⟨g,cap,rfl,_,_⟩:=World.ownsRow.form h (by omega)
  refine⟨_,g,0,cap,rfl,fun _=>rfl,fun i s hs=>?_,hb⟩;have hi:i < l.length:=(List.getElem?_eq_some_iff.1 hs).1;obtain⟨f0,f1,f2⟩:=Jfr l i s hs;simp only[Nat.zero_add];exact⟨by rw[World.ownsRow.cellAt h _ (by omega)];exact f0,by rw[World.ownsRow.cellAt h _ (by omega)];exact f1,by rw[World.ownsRow.cellAt h _ (by omega)];exact f2⟩

theorem SeenOwn.kept{w w':World}{base:Nat}{v:Value}{l:List Se}(h:SeenOwn w base v l){row:Option Nat}(hg:w.grownBy w' row)(hr:∀b,row=some b->b < base):SeenOwn w' base v l:=by
 refine World.ownsRow.kept h hg ?_;cases hv:v.ownBlock with
 | none=>left;rfl
 | some b=>
  right;intro e;have h1:=(World.ownsRow.lt h b hv).1;have h2:=hr b e.symm;omega
end
section
open Go.RowKit
set_option linter.unusedSimpArgs false
set_option linter.unusedVariables false
structure Inv(p:Prg)(m:Mem)(k:Nat)(s:St):Prop where
 at_:s.at_<=p.cl
 r:∀j,j < 10->B64 (s.r j)
 ml:s.m.ml=m.ml
 len:∀j,s.m.len j=m.len j
 wd:∀j,j < m.ml->∀i,i < m.len j->B64 (s.m.wd j i)
 seen:s.seen.length<=2*k

theorem Jbf{w:World}{base:Nat}{e:TypeId}{size:Nat}{v:Value}{n:Nat}{xs:List Value}(h:w.ownsRow base e size v n xs):∃a c,v=.slice a n c:=by
 rcases h.2 with⟨h,h0⟩ | ⟨g,cap,cur,h,_⟩
 ·exact⟨none,0,by rw[h,h0]⟩
 ·exact⟨_,cap,h⟩
end
section
open Go.RowKit
set_option linter.unusedVariables false
def Wr(w:World)(b o:Nat)(v:Value):Prop:=w.cell? ⟨b,o,none⟩=some v/\w.frozen? ⟨b,o,none⟩=false
theorem Wr.kept{w w':World}{row:Option Nat}(hg:w.grownBy w' row){b o:Nat}{v:Value}(h:Wr w b o v)(hne:some b≠row):Wr w' b o v:=
 ⟨hg.cell h.1 hne,(Jdz hg h.1 hne).trans h.2⟩
theorem Wr.same{w:World}{b o:Nat}{v:Value}(h:Wr w b o v)(u:Value):Wr (w.setCell ⟨b,o,none⟩ u) b o u:=
 ⟨World.cell?_setCell_same _ _ _ h.1,by rw[World.frozen?_setCell];exact h.2⟩
theorem Wr.other{w:World}{b o:Nat}{v:Value}(h:Wr w b o v)(b' o':Nat)(u:Value)(hne:b'≠b\/o'≠o):Wr (w.setCell ⟨b',o',none⟩ u) b o v:=
 ⟨by rw[World.cell?_setCell_other _ _ _ _ (by intro e;simp only[Addr.mk.injEq]at e;omega)];exact h.1,by rw[World.frozen?_setCell];exact h.2⟩

section
variable {w wr w':World} {rv cv:Value} {B:Nat} {s:St} {k:Nat} {sv mv:Value} {mb mc:Nat} {G C:Nat->Nat}

end
end
section
open Go.RowKit
set_option linter.unusedSimpArgs false
set_option linter.unusedVariables false
theorem J4f{P:Program}{w:World}(base:Nat)(t ty e:TypeId)(i:TypeInfo)(size:Nat)(ht:P.underlying t=some (.slice e))(hi:P.info? e=some i)
  (v:Value) (n:Nat) (xs:List Value) (hown:w.ownsRow base e size v n xs) (ad:Option Addr) (c:Nat):
  (Builtin.append_ #[t,t] ty #[v,.slice ad 0 c]).run P w=.ok v w:=by
 have hl:∀a:Addr,(loadCells a 0).run P w=.ok #[] w:=fun a=>rfl
 rcases hown.2 with⟨rfl,rfl⟩ | ⟨g,cap,cur,rfl,_,_,hnc,_⟩
 ·cases ad<;>simp[Builtin.append_,run_underlying ht,sizeOf,typeInfo,hi,Builtin.lenOf,Builtin.firstCells,hl]
 ·cases ad<;>simp[Builtin.append_,run_underlying ht,sizeOf,typeInfo,hi,Builtin.lenOf,Builtin.firstCells,hnc,storeCells,hl]

theorem Jbt{P:Program}{o:Oper}{a:Act}(w:World){K:Act->World->Prop}{Q:Exit->Act->World->Prop}(s x:Operand)(t:TypeId)
  (ho:o.op=.call { callee:=.builtin .append,args:=#[s,x],argTypes:=#[t,t]})
  (base:Nat) (e:TypeId) (i:TypeInfo) (z:Value) (size bytes:Nat) (ht:P.underlying t=some (.slice e)) (hi:P.info? e=some i) (hz:i.zero=some z)
  (hsize:i.size=size) (hby:i.bytes=bytes) (hzs:z.cells.size=size) (hsz:0 < size)
  (v:Value) (n:Nat) (xs:List Value) (hs:a.eval s=v) (hown:w.ownsRow base e size v n xs)
  (ad:Option Addr) (m c:Nat) (news:List Value) (hx:a.eval x=.slice ad m c) (hl:news.length=m*size) (hnews:0 < m->∃ad',ad=some ad'/\∀j u,news[j]?=some u->w.cell? (ad'.add j)=some u) (h1:∀u ∈ news,u.oneCell'=true)
  (h63:n+m<=maxLen) (hbytes:(n+m)*bytes<=140737488355328) (hbase:base<=w.heap.size)
  (h:∀va cap w',w'.ownsRow base e size (.slice va (n+m) cap) (n+m) (xs++news)->w.grownBy w' v.ownBlock->(∀b,(Value.slice va (n+m) cap).ownBlock=some b->v.ownBlock=some b\/b=w.heap.size)->(v.ownBlock≠none->va≠none)->K (a.put o.dst (.slice va (n+m) cap)) w'):o.wp P a w K Q:=by
 by_cases hm:0 < m
 ·obtain⟨ad',rfl,hn2⟩:=hnews hm
  refine wp_append_lies w s x t ho base e i z size bytes ht hi hz hsize hby hzs hsz v n xs hs hown ad' m c news hx hl hn2 h1 hm h63 hbytes hbase w.heap.size rfl (fun g cap w' h2 h3 h4 h5=>h _ _ _ h2 h3 (fun b hb=>?_) (fun _=>by simp));have:b=g:=by simpa[Value.ownBlock]using hb.symm
  subst this;exact h4
 ·obtain rfl:m=0:=by omega
  have hnl:news=[]:=List.eq_nil_of_length_eq_zero (by rw[hl];omega);subst hnl;have hrun:=J4f (P:=P) (w:=w) base t o.type e i size ht hi v n xs hown ad c;obtain⟨va,cap,rfl⟩:=Jbf hown;unfold Oper.wp;simp[execOp,ho,resolve,invoke,builtin,hs,hx,hrun,Result.andThen];exact h va cap w (by simpa using hown) (J0u _ _) (fun b hb=>.inl hb) (fun h1 h2=>h1 (by rw[h2];rfl))
theorem J7a{P:Program}{ops:Array Oper}{rest:List Oper}{o:Oper}{a:Act}(w:World){Q:Exit->Act->World->Prop}(hgd:o.guard=none)(s x:Operand)(t:TypeId)
  (ho:o.op=.call { callee:=.builtin .append,args:=#[s,x],argTypes:=#[t,t]})
  (base:Nat) (e:TypeId) (i:TypeInfo) (z:Value) (size bytes:Nat) (ht:P.underlying t=some (.slice e)) (hi:P.info? e=some i) (hz:i.zero=some z)
  (hsize:i.size=size) (hby:i.bytes=bytes) (hzs:z.cells.size=size) (hsz:0 < size)
  (v:Value) (n:Nat) (xs:List Value) (hs:a.eval s=v) (hown:w.ownsRow base e size v n xs)
  (ad:Option Addr) (m c:Nat) (news:List Value) (hx:a.eval x=.slice ad m c) (hl:news.length=m*size) (hnews:0 < m->∃ad',ad=some ad'/\∀j u,news[j]?=some u->w.cell? (ad'.add j)=some u) (h1:∀u ∈ news,u.oneCell'=true)
  (h63:n+m<=maxLen) (hbytes:(n+m)*bytes<=140737488355328) (hbase:base<=w.heap.size)
  (h:∀va cap w',w'.ownsRow base e size (.slice va (n+m) cap) (n+m) (xs++news)->w.grownBy w' v.ownBlock->(∀b,(Value.slice va (n+m) cap).ownBlock=some b->v.ownBlock=some b\/b=w.heap.size)->(v.ownBlock≠none->va≠none)->wpList P ops Q rest (a.put o.dst (.slice va (n+m) cap)) w'):wpList P ops Q (o::rest) a w:=
 wpList_plain hgd fun _ hK=>Jbt w s x t ho base e i z size bytes ht hi hz hsize hby hzs hsz v n xs hs hown ad m c news hx hl hnews h1 h63 hbytes hbase fun va cap w' h2 h3 h4 h5=>hK _ _ (h va cap w' h2 h3 h4 h5)

structure PV where
 rg:Nat
 rc:Nat
 wg:Nat
 wa:Option Addr
 wc:Nat
 pg:Nat
 pa:Option Addr
 pc:Nat
 P:Nat->Value
section
variable {w w':World} {lo N K:Nat} {lab lab':Nat->Nat} {q:Pl} {a:PV}

end
end
section
open Go.RowKit
set_option linter.unusedSimpArgs false
set_option linter.unusedVariables false
set_option maxRecDepth 8000
def NewsAt(w:World)(g:Nat)(L:List Ins):Prop:=∀j u,(flatI L)[j]?=some u->w.cell? ((⟨g,0,none⟩:Addr).add j)=some u
theorem NewsAt.of{w:World}{g:Nat}{L:List Ins}{cs:Array Value}{T:TypeId}(h:Blk w g cs T)(e:cs.toList=flatI L):NewsAt w g L:=fun j u hu=>by
 rw[<-e]at hu;exact World.news_of_block h j u hu

theorem Jm1(l:Int)(h0:0<=l)(h1:l<=6)(w:World):(Op.shift .shl .i64 1 .i64 l).run Tryz.prog w=.ok (V (J0h l)) w:=by
 have:l=0\/l=1\/l=2\/l=3\/l=4\/l=5\/l=6:=by omega
 rcases this with rfl | rfl | rfl | rfl | rfl | rfl | rfl
 all_goals (clear h0 h1;go_simp;rfl)

theorem Jcq(p:Prg)(i:Ins)(ra:Option Addr)(rc rb ro:Nat)(w:World)(hra:0 < p.rl->ra=some ⟨rb,ro,none⟩)(hr:RegsAt w rb ro p.rl p.log p.sec)(hok:J0r p.rl p.log)(hc:i.op=3\/i.op=4->Rgn p.rl i.c):
  Calls Tryz.prog 78 #[.agg #[V i.op,V i.a,V i.b,V i.c,V i.n],.slice ra p.rl rc] w fun e w'=>∃g,e=.returned (.slice (some ⟨g,0,none⟩) (maskL p i).length (maskL p i).length)/\NewsAt w' g (maskL p i)/\More w w':=by
 obtain⟨op,a,b,c,n⟩:=i;dsimp only at hc |-;by_cases hm:op=3\/op=4
 ·have hL:maskL p ⟨op,a,b,c,n⟩=[⟨10,8,b,0,n⟩,⟨11,8,0,0,J0h (p.log c.toNat)⟩,⟨op,a,8,c,0⟩]:=by unfold maskL;rw[if_pos hm]
  rw[hL];have hc':=hc hm;obtain⟨c0,c1⟩:=hc';obtain⟨cn,rfl⟩:=Int.eq_ofNat_of_zero_le c0;have hcn:cn < p.rl:=by omega
  have hci:(cn:Int) < (p.rl:Int):=by omega
  obtain rfl:=hra (by omega);have hrc:=(hr cn hcn).1;have hlg:=hok.2 cn hcn;simp only[Int.toNat_natCast]at hL |-;obtain⟨lg,Hlg⟩:∃x,Hid (p.log cn=x):=⟨_,rfl⟩;obtain⟨rl,Hrl⟩:∃x,Hid (p.rl=x):=⟨_,rfl⟩;rw[Hlg.out]at hrc hlg |-;rw[Hrl.out]at hci |-;clear hL hc c0 c1 hra hok hr Hlg Hrl hcn;have hsh:=Jm1 lg hlg.1 hlg.2;obtain⟨wd,Hwd⟩:∃x,Hid (J0h lg=x):=⟨_,rfl⟩;rw[Hwd.out]at hsh |-;clear hlg Hwd;have Hm:Hid (op=3\/op=4):=hm;clear hm;obtain⟨W,HW⟩:∃W:World,Hid (W=w.alloc (.cells #[V op,V a,V b,V (cn:Int),V n] 41)):=⟨_,rfl⟩;have HwW:Hid (More w W):=HW.out▸((More.refl _).alloc _ _);have HbW:Hid (Blk W w.heap.size #[V op,V a,V b,V (cn:Int),V n] 41):=HW.out▸Blk.last _ _ _;obtain⟨S,HS⟩:∃S:World->Prop,Hid (∀w',S w'↔More W w'):=⟨fun w'=>More W w',fun _=>Iff.rfl⟩;have HS0:S W.drew:=(HS.out _).2 (More.refl _).drew;have k0:∀i:{ w' // S w' },i.val.cell? ⟨w.heap.size,0,none⟩=some (V op):=fun i=>(HbW.out.more ((HS.out _).1 i.property)).cell rfl
  have k1:∀i:{ w' // S w' },i.val.cell? ⟨w.heap.size,1,none⟩=some (V a):=fun i=>(HbW.out.more ((HS.out _).1 i.property)).cell rfl
  have k2:∀i:{ w' // S w' },i.val.cell? ⟨w.heap.size,2,none⟩=some (V b):=fun i=>(HbW.out.more ((HS.out _).1 i.property)).cell rfl
  have k3:∀i:{ w' // S w' },i.val.cell? ⟨w.heap.size,3,none⟩=some (V (cn:Int)):=fun i=>(HbW.out.more ((HS.out _).1 i.property)).cell rfl
  have k4:∀i:{ w' // S w' },i.val.cell? ⟨w.heap.size,4,none⟩=some (V n):=fun i=>(HbW.out.more ((HS.out _).1 i.property)).cell rfl
  have kr:∀i:{ w' // S w' },i.val.cell? ⟨rb,ro+cn*2,none⟩=some (V lg):=fun i=>((HS.out _).1 i.property).cell (HwW.out.cell hrc)
  have hne:Nonempty { w' // S w' }:=⟨⟨_,HS0⟩⟩;clear hrc;have hop:=Hm.out;clear Hm;rcases hop with rfl | rfl
  all_goals
   go_enter Tryz.func78,Tryz.ntmps78;go_wp2_with (fail)
   rw[<-HW.out];refine J04 (S:=S) [(0,true),(1,true),(2,true),(3,true),(4,true),(5,true),(6,true),(7,true),(8,true),(9,true),(10,true),(11,true),(12,true),(13,true),(14,true),(15,true),(16,true),(17,true),(18,true),(19,true),(20,false),(21,true)] (by kernel_rfl) (by kernel_rfl) (by kernel_rfl) HS0 ?_
   iterate 20 (refine J00 rfl (by kernel_rfl) (fun K hK=>?_);go_simp;refine hK _ _ ?_;clear hK K)
   refine J03 rfl (by kernel_rfl) (fun K hK=>?_);go_simp;refine hK _ _ ((HS.out _).2 ((More.refl _).alloc _ _).drew) ?_;clear hK K;refine J00 rfl (by kernel_rfl) (fun K hK=>?_);go_simp;refine hK _ _ ?_;clear hK K;refine J06 ?_;clear k0 k1 k2 k3 k4 kr hne HS0 hsh;go_wp2;go_ret;refine⟨_,rfl,?_,((HwW.out.alloc _ _).drew)⟩;exact NewsAt.of (T:=41) (Blk.last W _ 41) rfl
 ·have hL:maskL p ⟨op,a,b,c,n⟩=[⟨op,a,b,c,n⟩]:=by unfold maskL;rw[if_neg hm]
  rw[hL];have e3:(op != 3)=true:=by simp;exact fun h=>hm (.inl h)
  have e4:(op != 4)=true:=by simp;exact fun h=>hm (.inr h)
  clear hL hm hc hra hr hok;go_enter Tryz.func78,Tryz.ntmps78;go_wp2;go_ret;refine⟨_,rfl,NewsAt.of (cs:=#[V op,V a,V b,V c,V n]) (T:=41) (by simpa using Blk.last (w.alloc (.cells #[V op,V a,V b,V c,V n] 41)) #[V op,V a,V b,V c,V n] 41) rfl,((More.refl _).alloc _ _).alloc _ _⟩
end
end Go.Proofs.YtephohhigbfafaaGreatDoor
