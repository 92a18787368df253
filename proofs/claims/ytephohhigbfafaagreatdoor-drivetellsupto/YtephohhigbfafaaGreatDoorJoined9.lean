/-
  The texts Told, SGoes, SSim, SActs, SActs2, SWay, Step, WayD, Hard, NewBad, New, one behind the other, with what is used of them.
-/
import Derived.Test.YtephohhigbfafaaGreatDoorJoined5
import Derived.Test.YtephohhigbfafaaGreatDoorJoined7
import Derived.Lib.SliceRun
import Derived.Test.YtephohhigbfafaaGreatDoorJoined8
import Derived.Test.YtephohhigbfafaaGreatDoorJoined0
import Derived.Deep.LoopGhost
namespace Go.Proofs.YtephohhigbfafaaGreatDoor
set_option maxHeartbeats 4000000
section
open Go.RowKit
set_option linter.unusedSimpArgs false
set_option linter.unusedVariables false
set_option maxRecDepth 8000
def intsL(f:Nat->Int)(n:Nat):List Value:=(List.range n).map fun j=>.int .i64 (f j)
theorem J7h(f:Nat->Int)(n:Nat):(intsL f n).length=n:=by simp[intsL]
theorem Jfx(f:Nat->Int)(n j:Nat)(h:j < n):(intsL f n)[j]?=some (.int .i64 (f j)):=by simp[intsL,h]

theorem Jjk(w:World)(b o n c:Nat)(f:Nat->Int)(n0:0 < n)(n1:n<=64)(hc:∀j,j < n->w.cell? ⟨b,o+j,none⟩=some (.int .i64 (f j))):
  Calls Tryz.prog 64 #[.slice (some ⟨b,o,none⟩) n c] w fun e w'=>∃g cap:Nat,e=.returned (.slice (some ⟨g,0,none⟩) n cap)/\w'.ownsRow w.heap.size 2 1 (.slice (some ⟨g,0,none⟩) n cap) n (intsL f n)/\More w w':=by
 obtain⟨i0,hi,hz0,hz1,hz2⟩:=info_parts info2;have Hi:Hid (Tryz.prog.info? 2=some i0/\i0.zero=some (.int .i64 0)/\i0.size=1/\i0.bytes=8):=⟨hi,hz0,hz1,hz2⟩;have Hn:Hid (0 < n/\n<=64):=⟨n0,n1⟩;have Hown1:Hid ((w.alloc (.cells #[] 2)).ownsRow w.heap.size 2 1 (.slice (some ⟨w.heap.size,0,none⟩) 0 0) 0 []):=World.ownsRow_made _ #[] 0 (Nat.le_refl _) (by unfold maxLen;omega) rfl
 have Hnews:Hid (∀j u,(intsL f n)[j]?=some u->(w.alloc (.cells #[] 2)).cell? ((⟨b,o,none⟩:Addr).add j)=some u):=by
  intro j u hu;have hj:j < n:=by have:=(List.getElem?_eq_some_iff.1 hu).1;rw[J7h]at this;exact this
  rw[Jfx f n j hj]at hu;rw[Go.WideShapes.add_plain,<-Option.some.inj hu];exact((More.refl _).alloc _ _).cell (hc j hj)
 have Hone:Hid (∀v ∈ intsL f n,v.oneCell'=true):=by intro v hv;simp[intsL]at hv;obtain⟨j,_,rfl⟩:=hv;rfl
 clear hi hz0 hz1 hz2 n0 n1 hc;have q60:∀(w:World) (a:Option Addr) (n c n' c':Nat),(binOp .eql 35 (.slice a n c) (.slice none n' c')).run Tryz.prog w=.ok (.bool a.isNone) w:=fun w a n c n' c'=>Lib.run_eql_slice_nil w _ _ a n c n' c' Tryz.underlying35
 go_enter Tryz.func64,Tryz.ntmps64;go_wp2_with (at_builtin;refine wpList_append_lies _ rfl (.tmp 5) (.tmp 6) 35 rfl w.heap.size 2 i0 (.int .i64 0) 1 8 Tryz.underlying35 Hi.out.1 Hi.out.2.1 Hi.out.2.2.1 Hi.out.2.2.2 rfl (by decide) (.slice (some ⟨w.heap.size,0,none⟩) 0 0) 0 [] rfl Hown1.out ⟨b,o,none⟩ n c (intsL f n) rfl (by rw[J7h,Nat.mul_one]) Hnews.out Hone.out Hn.out.1 (by have:=Hn.out.2;unfold maxLen;omega) (by have:=Hn.out.2;omega) (by simp) (w.heap.size+1) (by simp) ?_;intro g cap w2 own2 gr2 hat2 hlt2)
 go_ret;refine⟨g,cap,by simp,by simpa using own2,((More.refl _).alloc _ _).grownBy gr2 (fun k hk=>?_)⟩;have:w.heap.size=k:=by simpa[Value.ownBlock]using hk
 omega

structure Tld(w wr:World)(M:Nat)(rv cv:Value)(x:Ms)(gm rl k:Nat)(base G C:Nat->Nat):Prop where
 at_:MAt wr M rv cv { x with mv:=.slice (some ⟨gm,0,none⟩) rl rl }
 grew:w.grownBy wr (some M)
 lo:w.heap.size < gm
 hi:gm < wr.heap.size
 cells:∀j,j < rl->∃v,Wr wr gm j v
 done:∀j,j < k->Wr wr gm j (.slice (some ⟨G j,0,none⟩) (base (j+1) - base j) (C j))
 words:∀j,j < k->∀i,i < base (j+1) - base j->wr.cell? ⟨G j,i,none⟩=some (.int .i64 (x.wd (base j+i)))
 apart:∀j,j < k->gm < G j/\G j < wr.heap.size
 r0:Wr wr w.heap.size 0 (.int .i64 0)
 r1:Wr wr w.heap.size 1 (.int .i64 0)
 r2:Wr wr w.heap.size 2 (.int .i64 0)
 r3:Wr wr w.heap.size 3 (.slice none 0 0)
 r4:Wr wr w.heap.size 4 (.slice none 0 0)

theorem Tld.start{w:World}{M:Nat}{rv cv:Value}{x:Ms}(hm:MAt w M rv cv x)(rl:Nat)(base G C:Nat->Nat):
  Tld w (((w.setCell ⟨M,6,none⟩ (.slice (some ⟨w.heap.size+1,0,none⟩) rl rl)).alloc (.cells #[.int .i64 0,.int .i64 0,.int .i64 0,.slice none 0 0,.slice none 0 0] 44)).alloc (.cells (madeCells #[.slice none 0 0] rl) 35)) M rv cv x (w.heap.size+1) rl 0 base G C:=by
 have hlt:=hm.lt;refine⟨((hm.setMv _).alloc _).alloc _,J7y (J7y (J19 _ _ _ _) _) _,by omega,by simp,fun j hj=>⟨.slice none 0 0,?_⟩,fun j hj=>by omega,fun j hj=>by omega,fun j hj=>by omega,⟨by go_simp,by go_simp⟩,⟨by go_simp,by go_simp⟩,⟨by go_simp,by go_simp⟩,⟨by go_simp,by go_simp⟩,⟨by go_simp,by go_simp⟩⟩;have hj2:=Jh7 rl j hj;exact⟨by go_simp,by go_simp⟩

theorem Tld.step{w wr w5:World}{M:Nat}{rv cv:Value}{x:Ms}{gm rl k:Nat}{base G C:Nat->Nat}(h:Tld w wr M rv cv x gm rl k base G C)(hM:M < w.heap.size)(hk:k < rl)(m:More wr w5)(g cap:Nat)
  (own:w5.ownsRow wr.heap.size 2 1 (.slice (some ⟨g,0,none⟩) (base (k+1) - base k) cap) (base (k+1) - base k) (intsL (fun i=>x.wd (base k+i)) (base (k+1) - base k))):
  Tld w (w5.setCell ⟨gm,k,none⟩ (.slice (some ⟨g,0,none⟩) (base (k+1) - base k) cap)) M rv cv x gm rl (k+1) base (fun j=>if j=k then g else G j) (fun j=>if j=k then cap else C j):=by
 have hg:=own.lt g rfl;have hlo:=h.lo;have hhi:=h.hi;have hgs:=J19 w5 gm k (.slice (some ⟨g,0,none⟩) (base (k+1) - base k) cap);have hb:w.grownBy w5 (some M):=J25 h.grew (m.grow _);have hsz:w5.heap.size<=(w5.setCell ⟨gm,k,none⟩ (.slice (some ⟨g,0,none⟩) (base (k+1) - base k) cap)).heap.size:=hgs.size;have hres:∀j v,Wr wr w.heap.size j v->Wr (w5.setCell ⟨gm,k,none⟩ (.slice (some ⟨g,0,none⟩) (base (k+1) - base k) cap)) w.heap.size j v:=fun j v hw=>(hw.kept (m.grow none) (by simp)).other _ _ _ (by omega)
 refine⟨(h.at_.more m).kept hgs (by simp;omega),⟨hb.os,hb.tape,hb.output,Nat.le_trans hb.size hgs.size,fun i hi hne=>?_⟩,h.lo,by have:=m.size;omega,fun j hj=>?_,fun j hj=>?_,fun j hj i hi=>?_,fun j hj=>?_,hres _ _ h.r0,hres _ _ h.r1,hres _ _ h.r2,hres _ _ h.r3,hres _ _ h.r4⟩
 ·rw[hgs.block i (by have:=hb.size;omega) (by simp;omega)]
  exact hb.block i hi hne
 ·obtain⟨v,hv⟩:=h.cells j hj
  have hv5:=hv.kept (m.grow none) (by simp);by_cases e:j=k
  ·subst e;exact⟨_,hv5.same _⟩
  ·exact⟨v,hv5.other _ _ _ (by omega)⟩
 ·by_cases e:j=k
  ·subst e
   obtain⟨v,hv⟩:=h.cells j hk;simp only[if_true];exact(hv.kept (m.grow none) (by simp)).same _
  ·simp only[e,if_false]
   exact((h.done j (by omega)).kept (m.grow none) (by simp)).other _ _ _ (by omega)
 ·by_cases e:j=k
  ·subst e
   simp only[if_true];rw[hgs.cell (v:=.int .i64 (x.wd (base j+i))) ?_ (by simp;omega)];rw[World.ownsRow.cellAt own i (by omega)];exact Jfx _ _ i hi
  ·simp only[e,if_false]
   have:=h.apart j (by omega);exact hgs.cell (m.cell (h.words j (by omega) i hi)) (by simp;omega)
 ·have:=m.size
  by_cases e:j=k
  ·simp only[e,if_true];omega
  ·simp only[e,if_false]
   have:=h.apart j (by omega);omega

theorem Tld.mem{w wr:World}{M:Nat}{rv cv:Value}{x:Ms}{gm rl:Nat}{base G C:Nat->Nat}(h:Tld w wr M rv cv x gm rl rl base G C)(hrl:rl<=6)(hb:∀j,j < rl->base (j+1) - base j<=64){w':World}(hg:∀b o v,gm<=b->wr.cell? ⟨b,o,none⟩=some v->w'.cell? ⟨b,o,none⟩=some v):
  MIn w' ⟨rl,fun j=>base (j+1) - base j,fun j i=>x.wd (base j+i)⟩ ⟨some ⟨gm,0,none⟩,gm,0,rl,fun j=>some ⟨G j,0,none⟩,C,G,fun _=>0⟩:=by
 have hlo:=h.lo;refine⟨fun _=>rfl,fun j hj=>?_,fun j hj _=>rfl,fun j hj i hi=>?_,by dsimp only;omega,fun j hj=>by have:=hb j hj;dsimp only;omega⟩
 ·dsimp only
  rw[Nat.zero_add];exact hg _ _ _ (Nat.le_refl _) (h.done j hj).1
 ·dsimp only
  rw[Nat.zero_add];have:=h.apart j hj;exact hg _ _ _ (by omega) (h.words j hj i hi)

theorem SeenOwn.elsewhere{w w':World}{base:Nat}{v:Value}{l:List Se}(h:SeenOwn w base v l)(hb:l.length < 4611686018427387904)(hk:∀b,v.ownBlock=some b->w'.heap[b]?=w.heap[b]?):Jfb w' v l:=by
 by_cases h0:l.length=0
 ·have:l=[]:=List.eq_nil_of_length_eq_zero h0
  subst this;obtain⟨a,b,o,c,e,h1,h2,h3⟩:=h.at_ hb;exact⟨a,b,o,c,e,h1,fun i s h=>by simp at h,h3⟩
 ·obtain⟨g,cap,rfl,_,_⟩:=World.ownsRow.form h (by omega)
  have hg:w'.heap[g]?=w.heap[g]?:=hk g rfl;obtain⟨a,b,o,c,e,h1,h2,h3⟩:=h.at_ hb;have ha:=h1 (by omega);rw[ha]at e;have e2:g=b:=by simp at e;exact e.1.1
  subst e2;refine⟨_,g,o,c,e,fun _=>rfl,fun i s hs=>?_,h3⟩;have:=h2 i s hs;exact⟨by rw[World.cell?_of_block hg];exact this.1,by rw[World.cell?_of_block hg];exact this.2.1,by rw[World.cell?_of_block hg];exact this.2.2⟩

theorem J4x(w:World)(M:Nat)(ra:Option Addr)(rl rc:Nat)(cv:Value)(x:Ms)(se:List Se)(base:Nat->Nat)(h:Run w M (.slice ra rl rc) cv x se)(hrl:rl<=6)(hst:∀j,j<=rl->x.st j=(base j:Int))(hb0:∀j,j < rl->base j < base (j+1))(hb:∀j,j < rl->base (j+1) - base j<=64)(hb1:∀j,j<=rl->base j<=384)(hl:se.length<=200000):
  Calls Tryz.prog 28 #[.pointer (some ⟨M,0,none⟩)] w fun e w'=>∃v,e=.returned v/\(∀w'':World,(∀b,M < b->b < w'.heap.size->(∀p ∈ x.mo,p.1≠b)->w''.heap[b]?=w'.heap[b]?)->J3j w'' v ⟨x.fin,x.val,x.steps,se,⟨rl,fun j=>base (j+1) - base j,fun j i=>x.wd (base j+i)⟩⟩)/\w.grownBy w' (some M):=by
 obtain⟨sv,hm,ho,hqm⟩:=h.out;obtain⟨sa,sc,rfl⟩:=Jbf ho;have hM:=hm.lt;have hn:¬M=w.heap.size:=by omega
 have hn':¬w.heap.size=M:=by omega
 have hn1:¬M=w.heap.size+1:=by omega
 have hn1':¬w.heap.size+1=M:=by omega
 have H:Hid (MAt w M (.slice ra rl rc) cv { x with sv:=.slice sa se.length sc }/\SeenOwn w (M+1) (.slice sa se.length sc) se/\rl<=6/\(∀j,j<=rl->x.st j=(base j:Int))/\(∀j,j < rl->base j < base (j+1))/\(∀j,j < rl->base (j+1) - base j<=64)/\(∀j,j<=rl->base j<=384)/\se.length<=200000):=⟨hm,ho,hrl,hst,hb0,hb,hb1,hl⟩;have HM:Hid (M < w.heap.size):=hM
 have HQ:Hid (∀b,(Value.slice sa se.length sc).ownBlock=some b->M < b/\b < w.heap.size/\∀p ∈ x.mo,p.1≠b):=by
  intro b hb;have h1:=World.ownsRow.lt ho b hb;exact⟨by omega,h1.2,fun p hp e=>(hqm p hp).2.1 (by rw[e];exact hb.symm)⟩
 have HQ2:Hid (∀p ∈ x.mo,p.1 < w.heap.size):=fun p hp=>J1a (hqm p hp).2.2
 have c0:=hm.p0.1;obtain⟨c6,f6⟩:=hm.mv;have Hst:=Tld.start hm rl base (fun _=>0) (fun _=>0);have HT:Hid (Tld w (((w.setCell ⟨M,6,none⟩ (.slice (some ⟨w.heap.size+1,0,none⟩) rl rl)).alloc (.cells #[Value.int .i64 0,Value.int .i64 0,Value.int .i64 0,.slice none 0 0,.slice none 0 0] 44)).alloc (.cells (madeCells #[.slice none 0 0] rl) 35)) M (.slice ra rl rc) cv { x with sv:=.slice sa se.length sc } (w.heap.size+1) rl 0 base (fun _=>0) (fun _=>0)):=Hst;have hmk:=run_make_row' (P:=Tryz.prog) 29 35 (.slice none 0 0) 24 Tryz.underlying29 Jov rfl .i64 .i64 rl (by omega) (by omega);clear h hm ho hrl hst hb0 hb hb1 hl Hst hqm;go_enter Tryz.func28,Tryz.ntmps28;go_wp2;go_loopg [21] rl (fun q i wr=>∃(k:Nat) (G C:Nat->Nat),k+q=rl/\i=Value.int .i64 k/\Tld w wr M (.slice ra rl rc) cv { x with sv:=.slice sa se.length sc } (w.heap.size+1) rl k base G C)
 case atStart=>exact⟨0,_,_,by omega,rfl,HT.out⟩
 case round=>
  obtain⟨k,G,C,hkq,rfl,hT⟩:=hrel;have HTk:Hid (Tld w wr M (.slice ra rl rc) cv { x with sv:=.slice sa se.length sc } (w.heap.size+1) rl k base G C):=hT;have d6:=hT.at_.mv.1;dsimp only at d6;clear hT HT hmk c0 c6 f6;cases gk with
  | zero=>
   obtain rfl:k=rl:=by omega
   have d2:=HTk.out.at_.fin.1;have d3:=HTk.out.at_.val.1;have d4:=HTk.out.at_.steps.1;have d5:=HTk.out.at_.sv.1;dsimp only at d2 d3 d4 d5;obtain⟨z0,g0⟩:=HTk.out.r0;obtain⟨z1,g1⟩:=HTk.out.r1;obtain⟨z2,g2⟩:=HTk.out.r2;obtain⟨z3,g3⟩:=HTk.out.r3;obtain⟨z4,g4⟩:=HTk.out.r4;go_wp2;refine bodyPost_ret (v:=.agg #[Value.int .i64 x.fin,Value.int .i64 x.val,Value.int .i64 x.steps,.slice sa se.length sc,.slice (some ⟨w.heap.size+1,0,none⟩) k k]) (by simp[results,Tryz.results28,go_sem, *]) rfl ⟨_,rfl,?_⟩;have hg:wr.grownBy (((((wr.setCell ⟨w.heap.size,0,none⟩ (Value.int .i64 x.fin)).setCell ⟨w.heap.size,1,none⟩ (Value.int .i64 x.val)).setCell ⟨w.heap.size,2,none⟩ (Value.int .i64 x.steps)).setCell ⟨w.heap.size,3,none⟩ (.slice sa se.length sc)).setCell ⟨w.heap.size,4,none⟩ (.slice (some ⟨w.heap.size+1,0,none⟩) k k)) (some w.heap.size):=J0s (J0s (J0s (J0s (J0s (J0u _ _) _ _) _ _) _ _) _ _) _ _
   have hw:w.grownBy (((((wr.setCell ⟨w.heap.size,0,none⟩ (Value.int .i64 x.fin)).setCell ⟨w.heap.size,1,none⟩ (Value.int .i64 x.val)).setCell ⟨w.heap.size,2,none⟩ (Value.int .i64 x.steps)).setCell ⟨w.heap.size,3,none⟩ (.slice sa se.length sc)).setCell ⟨w.heap.size,4,none⟩ (.slice (some ⟨w.heap.size+1,0,none⟩) k k)) (some M):=
    ⟨hg.os.trans HTk.out.grew.os,hg.tape.trans HTk.out.grew.tape,hg.output.trans HTk.out.grew.output,Nat.le_trans HTk.out.grew.size hg.size,fun i hi hne=>by rw[hg.block i (by have:=HTk.out.grew.size;omega) (by simp;omega)];exact HTk.out.grew.block i hi hne⟩
   refine⟨fun w2 hg2=>⟨.slice sa se.length sc,⟨some ⟨w.heap.size+1,0,none⟩,w.heap.size+1,0,k,fun j=>some ⟨G j,0,none⟩,C,G,fun _=>0⟩,rfl,SeenOwn.elsewhere (H.out.2.1.kept hw (fun b hb=>by have:=Option.some.inj hb;omega)) (by have:=H.out.2.2.2.2.2.2.2;dsimp only;omega) (fun b hb=>hg2 b (HQ.out b hb).1 (by have:=hw.size;have:=(HQ.out b hb).2.1;omega) (HQ.out b hb).2.2),HTk.out.mem H.out.2.2.1 H.out.2.2.2.2.2.1 (fun b o v hb hc=>?_)⟩,?_⟩
   ·have h1:=hg.cell hc (by simp;omega)
    have hlt:=J0q h1;dsimp only at hlt;rw[World.cell?_of_block (hg2 b (by have:=HM.out;omega) hlt (fun p hp e=>by have:=HQ2.out p hp;omega))];exact h1
   exact hw
  | succ q=>
   have hk:k < rl:=by omega
   have hk':(k:Int) < (rl:Int):=by omega
   have hk0:(0:Int)<=(k:Int):=by omega
   have Hk:Hid (k < rl/\rl<=6/\base k < base (k+1)/\base (k+1) - base k<=64/\base (k+1)<=384):=⟨hk,H.out.2.2.1,H.out.2.2.2.2.1 k hk,H.out.2.2.2.2.2.1 k hk,H.out.2.2.2.2.2.2.1 (k+1) (by omega)⟩;have t0:wr.cell? ⟨M,404+k,none⟩=some (Value.int .i64 (base k:Int)):=by have:=(HTk.out.at_.st k (by have:=Hk.out;omega)).1;dsimp only at this;rw[H.out.2.2.2.1 k (by omega)]at this;exact this
   have t1:wr.cell? ⟨M,404+(k+1),none⟩=some (Value.int .i64 (base (k+1):Int)):=by have:=(HTk.out.at_.st (k+1) (by have:=Hk.out;omega)).1;dsimp only at this;rw[H.out.2.2.2.1 (k+1) (by omega)]at this;exact this
   obtain⟨lo,hlo⟩:∃lo,base k=lo:=⟨_,rfl⟩;obtain⟨hi,hhi⟩:∃hi,base (k+1)=hi:=⟨_,rfl⟩;rw[hlo]at t0;rw[hhi]at t1;have Hlo:Hid (base k=lo/\base (k+1)=hi):=⟨hlo,hhi⟩;have b1:(lo:Int)<=(hi:Int):=by have:=Hk.out;omega
   have b2:(hi:Int)<=384:=by have:=Hk.out;omega
   have b3:(0:Int)<=(lo:Int):=by omega
   have b4:(0:Int)<=(hi:Int):=by omega
   have b5:(lo:Int)<=384:=by omega
   have b6:¬384=lo:=by have:=Hk.out;omega
   have hk7:(k:Int) < 7:=by have:=Hk.out;omega
   have hk17:(k:Int)+1 < 7:=by have:=Hk.out;omega
   have hk10:(0:Int)<=(k:Int)+1:=by omega
   have hkw:wrap64 ((k:Int)+1)=(k:Int)+1:=by unfold wrap64;have:=Hk.out;omega
   have ht:((k:Int)+1).toNat=k+1:=by omega
   obtain⟨v0,hv0⟩:=HTk.out.cells k hk;obtain⟨y0,f0⟩:=hv0;have hwr:=J17;obtain⟨S,HS⟩:∃S:World->Prop,Hid (∀w',S w'↔w'.cell? ⟨M,6,none⟩=some (.slice (some ⟨w.heap.size+1,0,none⟩) rl rl)/\w'.cell? ⟨M,404+k,none⟩=some (Value.int .i64 (lo:Int))/\w'.cell? ⟨M,404+(k+1),none⟩=some (Value.int .i64 (hi:Int))):=⟨_,fun _=>Iff.rfl⟩;have k6:∀i:{ w' // S w' },i.val.cell? ⟨M,6,none⟩=some (.slice (some ⟨w.heap.size+1,0,none⟩) rl rl):=fun i=>((HS.out _).1 i.property).1
   have kl:∀i:{ w' // S w' },i.val.cell? ⟨M,404+k,none⟩=some (Value.int .i64 (lo:Int)):=fun i=>((HS.out _).1 i.property).2.1
   have kh:∀i:{ w' // S w' },i.val.cell? ⟨M,404+(k+1),none⟩=some (Value.int .i64 (hi:Int)):=fun i=>((HS.out _).1 i.property).2.2
   have hne:Nonempty { w' // S w' }:=⟨⟨wr,(HS.out _).2 ⟨d6,t0,t1⟩⟩⟩;go_wp2_with (fail)
   refine J04 (S:=S) [(0,true),(1,true),(2,true),(3,true),(4,true),(5,true),(6,true),(7,true),(8,true),(9,true),(10,true),(11,true),(12,true),(13,true),(14,true),(15,true),(16,true),(17,true),(18,true),(19,true),(20,true),(21,true),(22,true),(23,true),(24,false),(25,true),(26,false)] (by kernel_rfl) (by kernel_rfl) (by kernel_rfl) ?_ ?_
   ·exact(HS.out _).2 ⟨d6,t0,t1⟩
   iterate 23 (refine J00 rfl (by kernel_rfl) (fun K hK=>?_);go_simp;refine hK _ _ ?_;clear hK K)
   refine J00 rfl (by kernel_rfl) (fun K hK=>?_);go_simp;refine hK _ _ ?_;clear hK K;refine J03 rfl (by kernel_rfl) (fun K hK=>?_);go_simp;refine(Jjk _ M (17+lo) (hi - lo) _ (fun i=>x.wd (lo+i)) (by have:=Hk.out;have:=Hlo.out;omega) (by have:=Hk.out;have:=Hlo.out;omega) (fun j hj=>?_)).mono ?_
   ·have:=(HTk.out.at_.drew.wd (lo+j) (by have:=Hk.out;have:=Hlo.out;omega)).1
    rw[Nat.add_assoc];exact this
   rintro e w5 ⟨g,cap,rfl,own5,m5⟩;have H5:Hid (w5.ownsRow wr.heap.size 2 1 (.slice (some ⟨g,0,none⟩) (hi - lo) cap) (hi - lo) (intsL (fun i=>x.wd (lo+i)) (hi - lo))/\More wr w5):=⟨own5,(More.refl _).drew.trans m5⟩;have y5:=H5.out.2.cell y0;have f5:=(Wr.kept (H5.out.2.grow none) (⟨y0,f0⟩:Wr wr (w.heap.size+1) k v0) (by simp)).2;have e6:=H5.out.2.cell d6;have e0:=H5.out.2.cell t0;have e1:=H5.out.2.cell t1;clear own5 m5
   go_simp
   refine hK _ _ ((HS.out _).2 ⟨e6,e0,e1⟩) ?_;clear hK K;refine J00 rfl (by kernel_rfl) (fun K hK=>?_);go_simp;refine hK _ _ ?_;clear hK K;refine J03 rfl (by kernel_rfl) (fun K hK=>?_);go_simp;refine hK _ _ ((HS.out _).2 (by go_simp)) ?_;clear hK K;refine J06 ?_;clear k6 kl kh hne;go_wp2;go_roundg q
   case measure=>omega
   case rel=>
    have hst:=HTk.out.step HM.out Hk.out.1 H5.out.2 g cap (by rw[Hlo.out.1,Hlo.out.2];exact H5.out.1);rw[Hlo.out.1,Hlo.out.2]at hst;exact⟨k+1,_,_,by omega,by first | rfl | (push_cast;rfl),hst⟩

theorem Jm3(w:World)(M:Nat)(ra:Option Addr)(rl rc:Nat)(cv:Value)(x:Ms)(se:List Se)(base:Nat->Nat)(h:Run w M (.slice ra rl rc) cv x se)(hrl:rl<=6)(hst:∀j,j<=rl->x.st j=(base j:Int))(hb0:∀j,j < rl->base j < base (j+1))(hb:∀j,j < rl->base (j+1) - base j<=64)(hb1:∀j,j<=rl->base j<=384)(hl:se.length<=200000):
  Calls Tryz.prog 28 #[.pointer (some ⟨M,0,none⟩)] w fun e w'=>∃v,e=.returned v/\(∀(B:Nat) (w'':World),B < M->w'.grownBy w'' (some B)->J3j w'' v ⟨x.fin,x.val,x.steps,se,⟨rl,fun j=>base (j+1) - base j,fun j i=>x.wd (base j+i)⟩⟩)/\Below M w w':=by
 have hM:=h.lt;refine(J4x w M ra rl rc cv x se base h hrl hst hb0 hb hb1 hl).mono ?_;rintro e w' ⟨v,rfl,h1,h2⟩;exact⟨v,rfl,fun B w'' hB hg=>h1 w'' (fun b hb hlt _=>hg.block b hlt (by simp;omega)),Below.grown (Below.refl _ _) h2 (Nat.le_of_lt hM) (fun b hb=>by have:=Option.some.inj hb;omega)⟩
def noneS(cl:Nat)(x:Ms)(q:Tl):Bool:=q.ahead&&(decide (x.steps < x.fuel) && !decide (x.next < (cl:Int)))

theorem J49(w:World)(M:Nat)(rv:Value)(ca:Option Addr)(cl cc:Nat)(x x2:Ms)(q:Tl)(se:List Se)(r:Bool)(h:RunS w M rv (.slice ca cl cc) x q se)(hl:se.length<=200000)
  (hG:∀w1,RunS w1 M rv (.slice ca cl cc) (backX (noneS cl x q) x q) (backQ (noneS cl x q) q) (J1f (noneS cl x q) se)->Calls Tryz.prog 25 #[.pointer (some ⟨M,0,none⟩)] w1 fun e w'=>e=.returned (.bool r)/\RunS w' M rv (.slice ca cl cc) x2 (backQ (noneS cl x q) q) (J1f (noneS cl x q) se)/\Below M w1 w'):
  Calls Tryz.prog 30 #[.pointer (some ⟨M,0,none⟩)] w fun e w'=>e=.returned (.bool r)/\RunS w' M rv (.slice ca cl cc) x2 (backQ (noneS cl x q) q) (J1f (noneS cl x q) se)/\Below M w w':=by
 suffices H0:∀P:Ending->World->Prop,(∀e w',(e=.returned (.bool r)/\RunS w' M rv (.slice ca cl cc) x2 (backQ (noneS cl x q) q) (J1f (noneS cl x q) se)/\Below M w w')->P e w')->Calls Tryz.prog 30 #[.pointer (some ⟨M,0,none⟩)] w P from H0 _ (fun _ _ h=>h)
 intro P hP;have HP:=J01 hP;have H:=J01 (And.intro h hl);have HG:=J01 hG;have ch:=h.ahead.1;have hM:=h.lt;have hF:=fun w1 (m:More w w1)=>J45 w1 M _ _ (h.more m).run.steps.1 (h.more m).run.fuel.1
 have hN:=fun w1 (m:More w w1)=>J5y w1 M _ ca cl cc (h.more m).run.next.1 (h.more m).run.p1.1
 dsimp only at hF hN;obtain⟨bf,hbf⟩:∃bf,decide (x.steps < x.fuel)=bf:=⟨_,rfl⟩;obtain⟨bn,hbn⟩:∃bn,decide (x.next < (cl:Int))=bn:=⟨_,rfl⟩;rw[hbf]at hF;rw[hbn]at hN;have hno:noneS cl x q=(q.ahead&&(bf && !bn)):=by unfold noneS;rw[hbf,hbn]
 have Hno:=J01 hno;have HF:=J01 hF;have HN:=J01 hN;clear h hl hP hG hF hN hbf hbn hno
 have fin:∀w1,RunS w1 M rv (.slice ca cl cc) (backX (noneS cl x q) x q) (backQ (noneS cl x q) q) (J1f (noneS cl x q) se)->Below M w w1->Calls Tryz.prog 25 #[.pointer (some ⟨M,0,none⟩)] w1 fun e w'=>e=.returned (.bool r)/\P (.returned (.bool r)) w':=by
  intro w1 r1 b1;refine(HG.out w1 r1).mono ?_;rintro e w2 ⟨rfl,r2,b2⟩;exact⟨rfl,HP.out _ _ ⟨rfl,r2,Below.trans b1 b2⟩⟩
 have Hfin:=J01 fin;clear fin HG HP;cases hah:q.ahead with
 | false=>
  rw[hah]at ch;have e0:noneS cl x q=false:=by rw[Hno.out,hah];rfl
  have r0:RunS w M rv (.slice ca cl cc) (backX (noneS cl x q) x q) (backQ (noneS cl x q) q) (J1f (noneS cl x q) se):=by rw[e0];exact H.out.1
  have Hf:=J01 (Hfin.out w r0 (Below.refl _ _));clear r0 e0 hah Hfin;go_enter Tryz.func30,Tryz.ntmps30;go_wp2_with (fail)
  refine Hf.out.mono ?_;rintro e w2 ⟨rfl,hp⟩;have Hp:=J01 hp;clear hp Hf;go_wp2;exact Hp.out
 | true=>
  rw[hah]at ch;have Hah:=J01 hah;clear hah;go_enter Tryz.func30,Tryz.ntmps30;go_wp2_with (fail)
  refine(HF.out _ (More.refl _)).mono ?_;rintro e w1 ⟨rfl,m1⟩;have Hm1:=J01 m1;clear m1 HF;cases bf with
  | false=>
   have e0:noneS cl x q=false:=by rw[Hno.out,Hah.out];rfl
   have r0:RunS w1 M rv (.slice ca cl cc) (backX (noneS cl x q) x q) (backQ (noneS cl x q) q) (J1f (noneS cl x q) se):=by rw[e0];exact H.out.1.more Hm1.out
   have Hf:=J01 (Hfin.out w1 r0 (Below.mono Hm1.out (Nat.le_of_lt hM)));clear r0 e0 Hfin;go_wp2_with (fail)
   refine Hf.out.mono ?_;rintro e w2 ⟨rfl,hp⟩;have Hp:=J01 hp;clear hp Hf;go_wp2;exact Hp.out
  | true=>
   go_wp2_with (fail)
   refine(HN.out _ Hm1.out).mono ?_;rintro e w2 ⟨rfl,m2⟩;have Hm2:=J01 (Hm1.out.trans m2);clear m2 HN;cases bn with
   | true=>
    have e0:noneS cl x q=false:=by rw[Hno.out,Hah.out];rfl
    have r0:RunS w2 M rv (.slice ca cl cc) (backX (noneS cl x q) x q) (backQ (noneS cl x q) q) (J1f (noneS cl x q) se):=by rw[e0];exact H.out.1.more Hm2.out
    have Hf:=J01 (Hfin.out w2 r0 (Below.mono Hm2.out (Nat.le_of_lt hM)));clear r0 e0 Hfin;go_wp2_with (fail)
    refine Hf.out.mono ?_;rintro e w3 ⟨rfl,hp⟩;have Hp:=J01 hp;clear hp Hf;go_wp2;exact Hp.out
   | false=>
    have e0:noneS cl x q=true:=by rw[Hno.out,Hah.out];rfl
    have HT:=J01 (J1c w2 M rv (.slice ca cl cc) x q se H.out.2 (H.out.1.more Hm2.out));go_wp2_with (fail)
    refine HT.out.mono ?_;rintro e w3 ⟨rfl,r3,b3⟩;have r0:RunS w3 M rv (.slice ca cl cc) (backX (noneS cl x q) x q) (backQ (noneS cl x q) q) (J1f (noneS cl x q) se):=by rw[e0];exact r3
    have Hf:=J01 (Hfin.out w3 r0 (Below.trans (Below.mono Hm2.out (Nat.le_of_lt hM)) b3));clear r0 e0 Hfin r3 b3 HT;go_wp2_with (fail)
    refine Hf.out.mono ?_;rintro e w4 ⟨rfl,hp⟩;have Hp:=J01 hp;clear hp Hf;go_wp2;exact Hp.out

theorem Jjn(w:World)(M:Nat)(ra:Option Addr)(rl rc:Nat)(cv:Value)(x:Ms)(q:Tl)(se:List Se)(base:Nat->Nat)(h:RunS w M (.slice ra rl rc) cv x q se)(hrl:rl<=6)(hst:∀j,j<=rl->x.st j=(base j:Int))(hb0:∀j,j < rl->base j < base (j+1))(hb:∀j,j < rl->base (j+1) - base j<=64)(hb1:∀j,j<=rl->base j<=384)(hl:se.length<=200000):
  Calls Tryz.prog 32 #[.pointer (some ⟨M,0,none⟩)] w fun e w'=>∃v,e=.returned v/\(∀(B:Nat) (w'':World),B < M->w'.grownBy w'' (some B)->J3j w'' v ⟨x.fin,x.val,x.steps,se,⟨rl,fun j=>base (j+1) - base j,fun j i=>(if q.ahead=true then q.bw else x.wd) (base j+i)⟩⟩)/\Below M w w':=by
 have hM:=h.lt
 suffices H0:∀P:Ending->World->Prop,(∀e w',(∃v,e=.returned v/\(∀(B:Nat) (w'':World),B < M->w'.grownBy w'' (some B)->J3j w'' v ⟨x.fin,x.val,x.steps,se,⟨rl,fun j=>base (j+1) - base j,fun j i=>(if q.ahead=true then q.bw else x.wd) (base j+i)⟩⟩)/\Below M w w')->P e w')->Calls Tryz.prog 32 #[.pointer (some ⟨M,0,none⟩)] w P from H0 _ (fun _ _ h=>h)
 intro P hP;have HP:=J01 hP;have H:=J01 (And.intro (h.beside (.cells #[V 0,V 0,V 0,.slice none 0 0,.slice none 0 0] 44)) (And.intro hrl (And.intro hst (And.intro hb0 (And.intro hb (And.intro hb1 hl))))));have ch:=h.ahead.1;clear h hrl hst hb0 hb hb1 hl hP;cases hah:q.ahead with
 | false=>
  rw[hah]at ch;have Hah:=J01 hah;have hT:=J4x _ M ra rl rc cv _ se base H.out.1.run H.out.2.1 H.out.2.2.1 H.out.2.2.2.1 H.out.2.2.2.2.1 H.out.2.2.2.2.2.1 H.out.2.2.2.2.2.2;dsimp only at hT;have HT:=J01 hT;clear hah hT;go_enter Tryz.func32,Tryz.ntmps32;go_wp2_with (fail)
  refine HT.out.mono ?_;rintro e w5 ⟨v,rfl,hsh,g5⟩;have HSH:=J01 hsh
  have hR:w5.heap[w.heap.size]?=some (.cells #[V 0,V 0,V 0,.slice none 0 0,.slice none 0 0] 44 (0,0)):=by
   rw[g5.block w.heap.size (by simp) (by simp;omega)];exact heap_alloc_last _ _
  obtain⟨sv,lm,hv,hs1,hs2⟩:=hsh w5 (fun _ _ _ _=>rfl);dsimp only at hv;subst hv;obtain⟨sa,sb,so,sc,rfl,_,_,_⟩:=hs1;have y0:=J08 hR 0 (V 0) (by simp);have y1:=J08 hR 1 (V 0) (by simp);have y2:=J08 hR 2 (V 0) (by simp);have y3:=J08 hR 3 (.slice none 0 0) (by simp);have y4:=J08 hR 4 (.slice none 0 0) (by simp);have ff:∀j,w5.frozen? ⟨w.heap.size,j,none⟩=false:=fun j=>by simp[World.frozen?,hR]
  have g0:=ff 0;have g1:=ff 1;have g2:=ff 2;have g3:=ff 3;have g4:=ff 4;have hb5:Below M w w5:=Below.grown (J07 (Below.refl _ _) (Nat.le_of_lt hM) _) g5 (by simp;omega) (fun b hb=>by have:=Option.some.inj hb;omega);have HB5:=J01 hb5;clear hs2 hsh g5 hR ff hb5 HT;obtain⟨la,hla⟩:∃la,lm.ma=la:=⟨_,rfl⟩;obtain⟨lc,hlc⟩:∃lc,lm.mc=lc:=⟨_,rfl⟩;rw[hla,hlc]at HSH |-;clear hla hlc;go_wp2;refine bodyPost_ret (v:=.agg #[V x.fin,V x.val,V x.steps,.slice sa se.length sc,.slice la rl lc]) (by simp[results,Tryz.results32,go_sem, *]) rfl ?_;refine HP.out _ _ ⟨_,rfl,fun B w'' hB hg=>?_,?_⟩
  ·rw[Hah.out]
   refine HSH.out w'' (fun b hb hlt hne=>?_);have hbR:b≠w.heap.size:=fun e=>hne (w.heap.size,.cells #[V 0,V 0,V 0,.slice none 0 0,.slice none 0 0] 44) (List.mem_cons_self) e.symm
   rw[hg.block b (by simpa using hlt) (by simp;omega)];rw[Below.heap_setCell _ _ _ _ (by dsimp only;omega),Below.heap_setCell _ _ _ _ (by dsimp only;omega),Below.heap_setCell _ _ _ _ (by dsimp only;omega),Below.heap_setCell _ _ _ _ (by dsimp only;omega),Below.heap_setCell _ _ _ _ (by dsimp only;omega)]
  ·have hle:M<=w.heap.size:=Nat.le_of_lt hM
   exact Below.setCell (Below.setCell (Below.setCell (Below.setCell (Below.setCell HB5.out hle _) hle _) hle _) hle _) hle _
 | true=>
  rw[hah]at ch;have Hah:=J01 hah;clear hah;have HC:=J01 (J6l _ M (.slice ra rl rc) cv _ q se H.out.1);go_enter Tryz.func32,Tryz.ntmps32;go_wp2_with (fail)
  refine HC.out.mono ?_;rintro e w4 ⟨rfl,r4,b4⟩;have H4:=J01 (And.intro r4 b4);have hT:=J4x _ M ra rl rc cv _ se base r4.run H.out.2.1 H.out.2.2.1 H.out.2.2.2.1 H.out.2.2.2.2.1 H.out.2.2.2.2.2.1 H.out.2.2.2.2.2.2;dsimp only at hT;have HT:=J01 hT;clear hT r4 b4 HC;go_wp2_with (fail)
  refine HT.out.mono ?_;rintro e w5 ⟨v,rfl,hsh,g5⟩;have HSH:=J01 hsh
  have hR:w5.heap[w.heap.size]?=some (.cells #[V 0,V 0,V 0,.slice none 0 0,.slice none 0 0] 44 (0,0)):=by
   rw[g5.block w.heap.size (J1a (H4.out.1.left (List.mem_cons_self))) (by simp;omega)];exact H4.out.1.left (List.mem_cons_self)
  obtain⟨sv,lm,hv,hs1,hs2⟩:=hsh w5 (fun _ _ _ _=>rfl);dsimp only at hv;subst hv;obtain⟨sa,sb,so,sc,rfl,_,_,_⟩:=hs1;have y0:=J08 hR 0 (V 0) (by simp);have y1:=J08 hR 1 (V 0) (by simp);have y2:=J08 hR 2 (V 0) (by simp);have y3:=J08 hR 3 (.slice none 0 0) (by simp);have y4:=J08 hR 4 (.slice none 0 0) (by simp);have ff:∀j,w5.frozen? ⟨w.heap.size,j,none⟩=false:=fun j=>by simp[World.frozen?,hR]
  have g0:=ff 0;have g1:=ff 1;have g2:=ff 2;have g3:=ff 3;have g4:=ff 4;have hb5:Below M w w5:=Below.grown (Below.trans (J07 (Below.refl _ _) (Nat.le_of_lt hM) _) H4.out.2) g5 (Nat.le_of_lt H4.out.1.lt) (fun b hb=>by have:=Option.some.inj hb;omega);have HB5:=J01 hb5;clear hs2 hsh g5 hR ff hb5 HT;obtain⟨la,hla⟩:∃la,lm.ma=la:=⟨_,rfl⟩;obtain⟨lc,hlc⟩:∃lc,lm.mc=lc:=⟨_,rfl⟩;rw[hla,hlc]at HSH |-;clear hla hlc;go_wp2;refine bodyPost_ret (v:=.agg #[V x.fin,V x.val,V x.steps,.slice sa se.length sc,.slice la rl lc]) (by simp[results,Tryz.results32,go_sem, *]) rfl ?_;refine HP.out _ _ ⟨_,rfl,fun B w'' hB hg=>?_,?_⟩
  ·rw[Hah.out]
   refine HSH.out w'' (fun b hb hlt hne=>?_);have hbR:b≠w.heap.size:=fun e=>hne (w.heap.size,.cells #[V 0,V 0,V 0,.slice none 0 0,.slice none 0 0] 44) (List.mem_cons_self) e.symm
   rw[hg.block b (by simpa using hlt) (by simp;omega)];rw[Below.heap_setCell _ _ _ _ (by dsimp only;omega),Below.heap_setCell _ _ _ _ (by dsimp only;omega),Below.heap_setCell _ _ _ _ (by dsimp only;omega),Below.heap_setCell _ _ _ _ (by dsimp only;omega),Below.heap_setCell _ _ _ _ (by dsimp only;omega)]
  ·have hle:M<=w.heap.size:=Nat.le_of_lt hM
   exact Below.setCell (Below.setCell (Below.setCell (Below.setCell (Below.setCell HB5.out hle _) hle _) hle _) hle _) hle _
end
section
open Go.RowKit
set_option linter.unusedSimpArgs false
set_option linter.unusedVariables false
structure Sim(p:Prg)(fuel:Nat)(x:Ms)(q:Tl)(f:Int->Int->Int)(s:Sp)(k:Nat)(σ:Int):Prop where
 r:x.r=s.pl.r
 wd:∀j:Nat,(j:Int) < allI p->x.wd j=s.pl.wd j
 next:x.next=(s.pl.at_:Int)
 fin:x.fin=0
 val:x.val=0
 ended:x.ended=false
 steps:x.steps=(k:Int)
 fuel:x.fuel=(fuel:Int)
 st:∀j,j<=p.rl->x.st j=baseI p.log j
 puts:∀j:Nat,(j:Int) < allI p->q.puts j=((s.pl.past j).length:Int)
 was:∀j:Nat,(j:Int) < allI p->∀(t:Nat) v,(s.pl.past j)[t]?=some v->f j t=v
 ahead:q.ahead=s.ahead
 br:s.ahead=true->q.br=s.back.r
 bw:s.ahead=true->∀j:Nat,(j:Int) < allI p->q.bw j=s.back.wd j
 bn:s.ahead=true->q.bn=(s.back.at_:Int)
 bp:s.ahead=true->∀j:Nat,(j:Int) < allI p->q.bp j=((s.back.past j).length:Int)
 bwas:s.ahead=true->∀j:Nat,(j:Int) < allI p->∀(t:Nat) v,(s.back.past j)[t]?=some v->f j t=v
 less:s.ahead=true->∀j:Nat,(j:Int) < allI p->(s.back.past j).length<=(s.pl.past j).length
 til:s.ahead=true->q.til=(k:Int) - σ+12

section
variable {p:Prg} {fuel:Nat} {x:Ms} {q:Tl} {f:Int->Int->Int} {s:Sp} {k:Nat} {σ:Int}

theorem Sim.returns(h:Sim p fuel x q f s k σ)(ha:s.ahead=true)(σ':Int):Sim p fuel { x with r:=q.br,wd:=q.bw,next:=q.bn } { q with puts:=q.bp,ahead:=false } f s.returns k σ':=
 ⟨h.br ha,h.bw ha,h.bn ha,h.fin,h.val,h.ended,h.steps,h.fuel,h.st,h.bp ha,h.bwas ha,rfl,fun a=>by simp[Sp.returns]at a,fun a=>by simp[Sp.returns]at a,fun a=>by simp[Sp.returns]at a,fun a=>by simp[Sp.returns]at a,fun a=>by simp[Sp.returns]at a,fun a=>by simp[Sp.returns]at a,fun a=>by simp[Sp.returns]at a⟩
theorem Sim.begin(h:Sim p fuel x q f s k σ)(se:Se):Sim p fuel { x with steps:=x.steps+1,next:=(s.pl.at_:Int)+1 } q f ((s.see se).go (s.pl.at_+1)) (k+1) (σ+1):=
 ⟨h.r,h.wd,by simp[Sp.see,Sp.go],h.fin,h.val,h.ended,by dsimp only;rw[h.steps];push_cast;rfl,h.fuel,h.st,h.puts,h.was,h.ahead,h.br,h.bw,h.bn,h.bp,h.bwas,h.less,fun a=>by rw[h.til a];push_cast;omega⟩
theorem Sim.see(h:Sim p fuel x q f s k σ)(se:Se):Sim p fuel x q f (s.see se) k σ:=⟨h.r,h.wd,h.next,h.fin,h.val,h.ended,h.steps,h.fuel,h.st,h.puts,h.was,h.ahead,h.br,h.bw,h.bn,h.bp,h.bwas,h.less,h.til⟩
theorem Sim.seens(h:Sim p fuel x q f s k σ)(l:List Se):Sim p fuel x q f { s with seen:=l } k σ:=⟨h.r,h.wd,h.next,h.fin,h.val,h.ended,h.steps,h.fuel,h.st,h.puts,h.was,h.ahead,h.br,h.bw,h.bn,h.bp,h.bwas,h.less,h.til⟩
theorem Sim.go(h:Sim p fuel x q f s k σ)(n:Nat)(m:Int)(hm:m=(n:Int)):Sim p fuel { x with next:=m } q f (s.go n) k σ:=⟨h.r,h.wd,hm,h.fin,h.val,h.ended,h.steps,h.fuel,h.st,h.puts,h.was,h.ahead,h.br,h.bw,h.bn,h.bp,h.bwas,h.less,h.til⟩
theorem Sim.regs(h:Sim p fuel x q f s k σ)(r:Nat->Int):Sim p fuel { x with r:=r } q f { s with pl:={ s.pl with r:=r } } k σ:=⟨rfl,h.wd,h.next,h.fin,h.val,h.ended,h.steps,h.fuel,h.st,h.puts,h.was,h.ahead,h.br,h.bw,h.bn,h.bp,h.bwas,h.less,h.til⟩
theorem Sim.reg(h:Sim p fuel x q f s k σ)(a v:Int):Sim p fuel { x with r:=setR x.r a v } q f (s.reg a v) k σ:=by
 have:=h.regs (setR x.r a v);rw[h.r]at this |-;exact this
theorem Sim.tail(h:Sim p fuel x q f s k σ)(sc:Value):Sim p fuel x { q with sc:=sc } f { s with script:=s.script.tail } k σ:=⟨h.r,h.wd,h.next,h.fin,h.val,h.ended,h.steps,h.fuel,h.st,h.puts,h.was,h.ahead,h.br,h.bw,h.bn,h.bp,h.bwas,h.less,h.til⟩
theorem Sim.mos(h:Sim p fuel x q f s k σ)(l:List (Nat × Obj)):Sim p fuel { x with mo:=l } q f s k σ:=⟨h.r,h.wd,h.next,h.fin,h.val,h.ended,h.steps,h.fuel,h.st,h.puts,h.was,h.ahead,h.br,h.bw,h.bn,h.bp,h.bwas,h.less,h.til⟩
theorem Sim.leave(h:Sim p fuel x q f s k (s.since+1)):Sim p fuel x (q.left x) f s.leave k (s.leave.since+1):=by
 unfold Sp.leave Tl.left;by_cases ha:s.ahead=true
 ·rw[if_pos ha,if_pos (by rw[h.ahead];exact ha)]
  exact h
 ·rw[if_neg ha,if_neg (by rw[h.ahead];exact ha)]
  exact⟨h.r,h.wd,h.next,h.fin,h.val,h.ended,h.steps,h.fuel,h.st,h.puts,h.was,rfl,fun _=>h.r,fun _=>h.wd,fun _=>h.next,fun _=>h.puts,fun _=>h.was,fun _ _ _=>Nat.le_refl _,fun _=>by dsimp only;rw[h.steps];omega⟩
theorem Sim.put(h:Sim p fuel x q f s k σ)(n:Int)(n0:0<=n)(n1:n < allI p)(a:Int)(v:Int)(hv:v=x.r a.toNat):
  Sim p fuel { x with wd:=setN x.wd n.toNat v } { q with puts:=setN q.puts n.toNat (q.puts n.toNat+1)} (fun n' t'=>if n'=n/\t'=q.puts n.toNat then x.wd n.toNat else f n' t')
   { s with pl:={ s.pl with past:=setF s.pl.past n.toNat (s.pl.past n.toNat++[s.pl.wd n.toNat]),wd:=setF s.pl.wd n.toNat (s.pl.r a.toNat)} } k σ:=by
 have hn:((n.toNat:Nat):Int)=n:=by omega
 have hn1:((n.toNat:Nat):Int) < allI p:=by omega
 have hp:=h.puts n.toNat hn1;refine⟨h.r,fun j hj=>?_,h.next,h.fin,h.val,h.ended,h.steps,h.fuel,h.st,fun j hj=>?_,fun j hj t u hu=>?_,h.ahead,h.br,h.bw,h.bn,h.bp,fun ha j hj t u hu=>?_,fun ha j hj=>?_,h.til⟩
 ·dsimp only[setN,setF]
  by_cases e:j=n.toNat
  ·rw[if_pos e,if_pos e,hv,h.r]
  ·rw[if_neg e,if_neg e];exact h.wd j hj
 ·dsimp only[setN,setF]
  by_cases e:j=n.toNat
  ·rw[if_pos e,if_pos e,hp];simp
  ·rw[if_neg e,if_neg e];exact h.puts j hj
 ·dsimp only[setF]at hu |-
  by_cases e:j=n.toNat
  ·subst e
   rw[if_pos rfl]at hu;rw[hn,hp];by_cases et:t=(s.pl.past n.toNat).length
   ·subst et
    rw[if_pos ⟨rfl,rfl⟩,h.wd _ hn1];simp at hu;exact hu
   ·rw[if_neg (fun hh=>et (by have:=hh.2;omega))]
    have hlt:t < (s.pl.past n.toNat).length:=by
     have:=(List.getElem?_eq_some_iff.1 hu).1;simp at this;omega
    rw[List.getElem?_append_left hlt]at hu;have:=h.was n.toNat hn1 t u hu;rw[hn]at this;exact this
  ·rw[if_neg e]at hu
   rw[if_neg (fun hh=>e (by omega))];exact h.was j hj t u hu
 ·replace hu:(s.back.past j)[t]?=some u:=hu
  have hb:=h.bwas ha j hj t u hu;have hl:=h.less ha j hj;have ht:=(List.getElem?_eq_some_iff.1 hu).1;show(if(j:Int)=n/\(t:Int)=q.puts n.toNat then x.wd n.toNat else f j t)=u;rw[if_neg]
  ·exact hb
  ·rintro⟨h1,h2⟩
   obtain rfl:j=n.toNat:=by omega
   rw[hp]at h2;omega
 ·dsimp only[setF]
  have:=h.less ha j hj
  split
  ·rename_i e;subst e;simp;omega
  ·exact this

theorem Sim.noneLeft(h:Sim p fuel x q f s k σ)(hf:k < fuel):Sim p fuel (backX (noneS p.cl x q) x q) (backQ (noneS p.cl x q) q) f (s.noneLeft p.cl) k σ/\J1f (noneS p.cl x q) s.seen=(s.noneLeft p.cl).seen:=by
 have e:noneS p.cl x q=decide (p.cl<=s.pl.at_/\s.ahead=true):=by
  unfold noneS;rw[h.ahead,h.steps,h.fuel,h.next,decide_eq_true (by omega:(k:Int) < (fuel:Int))];by_cases hc:p.cl<=s.pl.at_
  ·cases s.ahead<;>simp[hc]<;>omega
  ·cases s.ahead<;>simp[hc]<;>omega
 rw[e];unfold Sp.noneLeft;by_cases hc:p.cl<=s.pl.at_/\s.ahead=true
 ·rw[if_pos hc,decide_eq_true hc]
  exact⟨h.returns hc.2 σ,rfl⟩
 ·rw[if_neg hc,decide_eq_false hc]
  exact⟨h,rfl⟩
theorem Sim.after(h:Sim p fuel x q f s k (s.since+1))(op:Int)(over:Bool)(ho:over=true↔(op=12\/op=9/\s.ahead=true))(hop:op=9->s.ahead=true):
  Sim p fuel (backX (endsS op x q) x q) (backQ (endsS op x q) q) f (s.after over) k (s.after over).since/\J1f (endsS op x q) s.seen=(s.after over).seen:=by
 unfold Sp.after;by_cases ha:s.ahead=true
 ·rw[if_pos ha]
  have e:endsS op x q=decide (over=true\/s.since+1=12):=by
   unfold endsS;rw[h.ahead,ha,h.steps,h.til ha,Bool.true_and]
   congr 1
   rw[ho];apply propext;constructor
   ·rintro(h1 | h1 | h1)
    ·exact .inl (.inl h1)
    ·exact .inl (.inr ⟨h1,ha⟩)
    ·right;omega
   ·rintro((h1 | h1) | h1)
    ·exact .inl h1
    ·exact .inr (.inl h1.1)
    ·right;right;omega
  rw[e];by_cases hc:over=true\/s.since+1=12
  ·rw[if_pos hc,decide_eq_true hc]
   have h2:Sim p fuel x q f { s with since:=s.since+1 } k (s.since+1):=⟨h.r,h.wd,h.next,h.fin,h.val,h.ended,h.steps,h.fuel,h.st,h.puts,h.was,h.ahead,h.br,h.bw,h.bn,h.bp,h.bwas,h.less,h.til⟩;exact⟨h2.returns ha _,rfl⟩
  ·rw[if_neg hc,decide_eq_false hc]
   exact⟨⟨h.r,h.wd,h.next,h.fin,h.val,h.ended,h.steps,h.fuel,h.st,h.puts,h.was,h.ahead,h.br,h.bw,h.bn,h.bp,h.bwas,h.less,h.til⟩,rfl⟩
 ·rw[if_neg ha]
  have e:endsS op x q=false:=by unfold endsS;rw[h.ahead];simp[ha]
  rw[e];exact⟨⟨h.r,h.wd,h.next,h.fin,h.val,h.ended,h.steps,h.fuel,h.st,h.puts,h.was,h.ahead,h.br,h.bw,h.bn,h.bp,h.bwas,h.less,fun a=>absurd a ha⟩,rfl⟩
end

structure Jmp(p:Prg)(x:Ms)(q:Tl)(wd:Nat->Int)(fn vl t:Int):Prop where
 fin:x.fin=fn
 val:x.val=vl
 steps:x.steps=t
 ended:x.ended=true
 ahead:q.ahead=false
 wd:∀j:Nat,(j:Int) < allI p->x.wd j=wd j
 st:∀j,j<=p.rl->x.st j=baseI p.log j
end
section
open Go.RowKit
set_option linter.unusedSimpArgs false
set_option linter.unusedVariables false
set_option maxRecDepth 8000
structure GoodS(p:Prg)(fuel:Nat)(s:Sp)(k mb:Nat)(op:Int)(w:World)(x:Ms)(q:Tl)(se:List Se):Prop where
 out:∃f,q.mb=mb/\MapAt w mb f/\ScAt w mb q.sc (stepS p s).1.script/\se=(stepS p s).1.seen/\
  match (stepS p s).2.2 with
  | none=>Sim p fuel x q f (stepS p s).1 (k+1) ((stepS p s).1.since+1)/\((stepS p s).2.1=true↔(op=12\/op=9/\(stepS p s).1.ahead=true))/\(op=9->(stepS p s).1.ahead=true)
  | some e=>Jmp p x q s.pl.wd e.1 e.2 ((k:Int)+1)

structure Bgn(p:Prg)(fuel:Nat)(w:World)(M mb:Nat)(x:Ms)(q:Tl)(f:Int->Int->Int)(s:Sp)(k:Nat):Prop where
 sim:Sim p fuel x q f s k s.since
 hmb:q.mb=mb
 mM:mb < M
 map:MapAt w mb f
 sc:ScAt w mb q.sc s.script
 inv:InvS p k (4*k+1) s
 some_:k < fuel
 most:fuel<=40000
 all:allI p<=384
 base:∀j,j < p.rl->0<=baseI p.log j/\baseI p.log (j+1)=baseI p.log j+J0h (p.log j)/\0<=J0h (p.log j)/\baseI p.log (j+1)<=384
 six:p.rl<=6

section
variable {p:Prg} {fuel:Nat} {w:World} {M mb:Nat} {rv cv:Value} {x:Ms} {q:Tl} {f:Int->Int->Int} {s:Sp} {k:Nat}

def Ms.begun(x:Ms)(s:Sp):Ms:={ x with steps:=x.steps+1,next:=(s.pl.at_:Int)+1 }

theorem Bgn.keep(h:Bgn p fuel w M mb x q f s k){w1 w':World}(b1:Below M w w1)(b2:Below M w1 w'):MapAt w' mb f/\ScAt w' mb q.sc s.script:=
 ⟨(h.map.below b1 h.mM).below b2 h.mM,(h.sc.below (Below.mono b1 (Nat.le_of_lt h.mM))).below (Below.mono b2 (Nat.le_of_lt h.mM))⟩
theorem Bgn.on(h:Bgn p fuel w M mb x q f s k):Sim p fuel (x.begun s) q f s.on (k+1) (s.since+1):=h.sim.begin _

theorem Jdn(h:Bgn p fuel w M mb x q f s k)(op a b c n:Int)(x2:Ms)(se2:List Se)
  (hD:∀w1 mo,Run w1 M rv cv { x.begun s with T:=98,tl:=tlF q,mo:=mo } (s.seen++[⟨1,s.pl.at_,0⟩])->Calls Tryz.prog 26 #[.pointer (some ⟨M,0,none⟩),.agg #[V op,V a,V b,V c,V n]] w1 fun e w'=>e=.returned (.tuple #[])/\Run w' M rv cv { x2 with T:=98,tl:=tlF q,mo:=mo } se2/\Below M w1 w')
  (hs:(stepS p s).1.script=s.script) (hse:se2=(stepS p s).1.seen) (hn:(stepS p s).2.2=none) (hsim:Sim p fuel x2 q f (stepS p s).1 (k+1) ((stepS p s).1.since+1)) (hov:(stepS p s).2.1=true↔(op=12\/op=9/\(stepS p s).1.ahead=true)) (h9:¬op=9):
  Acts 26 op a b c n w M mb rv cv (x.begun s) q (s.seen++[⟨1,s.pl.at_,0⟩]) (GoodS p fuel s k mb op):=by
 refine⟨fun w1 mo r1 b1=>?_⟩;refine(hD w1 mo r1.run).mono ?_;rintro e w' ⟨rfl,r2,b2⟩;refine⟨rfl,Below.mono b2 (Nat.le_of_lt h.mM),x2,q,se2,⟨f,h.hmb,(h.keep b1 b2).1,by rw[hs];exact(h.keep b1 b2).2,hse,?_⟩,⟨r2⟩⟩;rw[hn];exact⟨hsim,hov,fun e=>absurd e h9⟩

theorem Jon(h:Bgn p fuel w M mb x q f s k)(a b c n:Int)(hI:p.ins s.pl.at_=⟨7,a,b,c,n⟩)(a0:0<=a)(a1:a < 10)(n0:0<=n):
  Acts 26 7 a b c n w M mb rv cv (x.begun s) q (s.seen++[⟨1,s.pl.at_,0⟩]) (GoodS p fuel s k mb 7):=by
 have e:=J76 hI rfl;refine Jdn h 7 a b c n { x.begun s with next:=n } _ (fun w1 mo r1=>do_7 a b c n w1 M rv cv _ _ r1 a0 a1) (by rw[e];rfl) (by rw[e];rfl) (by rw[e]) ?_ (by rw[e];simp) (by omega);rw[e];exact h.on.go n.toNat n (by omega)
theorem Jnb(h:Bgn p fuel w M mb x q f s k)(a b c n:Int)(hI:p.ins s.pl.at_=⟨12,a,b,c,n⟩)(a0:0<=a)(a1:a < 10):
  Acts 26 12 a b c n w M mb rv cv (x.begun s) q (s.seen++[⟨1,s.pl.at_,0⟩]) (GoodS p fuel s k mb 12):=by
 have e:=J32 hI (.inr rfl);refine Jdn h 12 a b c n (x.begun s) _ (fun w1 mo r1=>do_12 a b c n w1 M rv cv _ _ r1 a0 a1) (by rw[e];rfl) (by rw[e];rfl) (by rw[e]) ?_ (by rw[e];simp) (by omega);rw[e];exact h.on
theorem Jhy(h:Bgn p fuel w M mb x q f s k)(op a b c n:Int)(hI:p.ins s.pl.at_=⟨op,a,b,c,n⟩)(h3:¬op=3)(h4:¬op=4)(h5:¬op=5)(h6:¬op=6)(h7:¬op=7)(h8:¬op=8)(h9:¬op=9)(h12:¬op=12)
  (hD:∀w1 mo,Run w1 M rv cv { x.begun s with T:=98,tl:=tlF q,mo:=mo } (s.seen++[⟨1,s.pl.at_,0⟩])->Calls Tryz.prog 26 #[.pointer (some ⟨M,0,none⟩),.agg #[V op,V a,V b,V c,V n]] w1 fun e w'=>e=.returned (.tuple #[])/\Run w' M rv cv { x.begun s with r:=(regsI x.r ⟨op,a,b,c,n⟩).1,T:=98,tl:=tlF q,mo:=mo } (s.seen++[⟨1,s.pl.at_,0⟩]++(regsI x.r ⟨op,a,b,c,n⟩).2)/\Below M w1 w'):
  Acts 26 op a b c n w M mb rv cv (x.begun s) q (s.seen++[⟨1,s.pl.at_,0⟩]) (GoodS p fuel s k mb op):=by
 have e:=J77 hI h3 h4 h5 h6 h7 h8 h9 h12;refine Jdn h op a b c n { x.begun s with r:=(regsI x.r ⟨op,a,b,c,n⟩).1 } _ hD (by rw[e];rfl) (by rw[e,h.sim.r];rfl) (by rw[e]) ?_ (by rw[e];simp;omega) h9;rw[e];have:=(h.on.regs (regsI x.r ⟨op,a,b,c,n⟩).1).seens (s.on.seen++(regsI s.pl.r ⟨op,a,b,c,n⟩).2);rw[h.sim.r]at this |-;exact this

theorem Jhx(h:Bgn p fuel w M mb x q f s k)(op a b c n:Int)(hI:p.ins s.pl.at_=⟨op,a,b,c,n⟩)(hin:InsOk p.rl p.log p.cl 10 ⟨op,a,b,c,n⟩)(h3:¬op=3)(h4:¬op=4)(h5:¬op=5)(h6:¬op=6)(h8:¬op=8)(h9:¬op=9):
  Acts 26 op a b c n w M mb rv cv (x.begun s) q (s.seen++[⟨1,s.pl.at_,0⟩]) (GoodS p fuel s k mb op):=by
 have hlen:(s.seen++[(⟨1,s.pl.at_,0⟩:Se)]).length<=200000:=by
  have:=h.inv.seen;have:=h.some_;have:=h.most
  simp
  omega
 unfold InsOk Reg Plc at hin;dsimp only at hin;by_cases h7:op=7
 ·subst h7
  simp at hin;exact Jon h a b c n hI (by omega) (by omega) (by omega)
 by_cases h12:op=12
 ·subst h12
  simp at hin;exact Jnb h a b c n hI (by omega) (by omega)
 refine Jhy h op a b c n hI h3 h4 h5 h6 h7 h8 h9 h12 (fun w1 mo r1=>?_);by_cases h1:op=1
 ·subst h1
  simp at hin;have e:regsI x.r ⟨1,a,b,c,n⟩=(setR x.r a n,[]):=by simp[regsI]
  rw[e,List.append_nil];exact do_1 a b c n w1 M rv cv _ _ r1 (by omega) (by omega)
 by_cases h2:op=2
 ·subst h2
  simp at hin;have e:regsI x.r ⟨2,a,b,c,n⟩=(setR x.r a (x.r b.toNat),[]):=by simp[regsI]
  rw[e,List.append_nil];exact do_2 a b c n w1 M rv cv _ _ r1 (by omega) (by omega) (by omega) (by omega)
 by_cases h10:op=10
 ·subst h10
  simp at hin;have e:regsI x.r ⟨10,a,b,c,n⟩=(setR x.r a (wrap64 (x.r b.toNat+n)),[]):=by simp[regsI]
  rw[e,List.append_nil];exact do_10 a b c n w1 M rv cv _ _ r1 (by omega) (by omega) (by omega) (by omega)
 by_cases h11:op=11
 ·subst h11
  simp at hin;by_cases lo:x.r a.toNat < 0
  ·have e:regsI x.r ⟨11,a,b,c,n⟩=(setR x.r a 0,[]):=by simp[regsI,lo]
   rw[e,List.append_nil];exact Jia a b c n _ w1 M rv cv _ _ r1 (by omega) (by omega) rfl lo
  ·by_cases hi:n<=x.r a.toNat
   ·have e:regsI x.r ⟨11,a,b,c,n⟩=(setR x.r a 0,[]):=by simp[regsI,hi]
    rw[e,List.append_nil];exact Ji8 a b c n _ w1 M rv cv _ _ r1 (by omega) (by omega) rfl lo hi
   ·have e:regsI x.r ⟨11,a,b,c,n⟩=(x.r,[]):=by unfold regsI;dsimp only;rw[if_neg (by decide),if_neg (by decide),if_neg (by decide),if_pos rfl,if_neg (by omega)]
    rw[e,List.append_nil];exact Ji9 a b c n _ w1 M rv cv _ _ r1 (by omega) (by omega) rfl lo (by show x.r a.toNat < n;omega)
 rw[if_neg h1,if_neg h2,if_neg h3,if_neg h4,if_neg h5,if_neg h6,if_neg h7,if_neg h8,if_neg h9,if_neg h10,if_neg h11,if_neg h12]at hin
 have er:regsI x.r ⟨op,a,b,c,n⟩=(setR x.r a (opI (op - 20) (x.r b.toNat) (x.r c.toNat)),if op=29\/op=30 then[⟨3,x.r b.toNat,x.r c.toNat⟩] else[]):=by
  unfold regsI;dsimp only;rw[if_neg h1,if_neg h2,if_neg h10,if_neg h11,if_neg h12]
 rw[er];by_cases h29:op=29
 ·subst h29
  rw[if_pos (.inl rfl)];exact do_op 29 a b c n w1 M rv cv _ _ r1 (by omega) (by omega) _ _ (by omega) (fun w2 m2=>J5g a b c n w2 M rv cv _ _ (r1.more m2) hlen (by omega) (by omega) (by omega) (by omega) (by omega) (by omega))
 by_cases h30:op=30
 ·subst h30
  rw[if_pos (.inr rfl)];exact do_op 30 a b c n w1 M rv cv _ _ r1 (by omega) (by omega) _ _ (by omega) (fun w2 m2=>J5h a b c n w2 M rv cv _ _ (r1.more m2) hlen (by omega) (by omega) (by omega) (by omega) (by omega) (by omega))
 rw[if_neg (by omega),List.append_nil];exact do_op op a b c n w1 M rv cv _ _ r1 (by omega) (by omega) _ _ (by omega) (fun w2 m2=>J5i op a b c n w2 M rv cv _ _ (r1.more m2) (by omega) (by omega) h29 h30 (by omega) (by omega) (by omega) (by omega) (by omega) (by omega))
end
section
variable {p:Prg} {fuel:Nat} {w:World} {M mb:Nat} {rv cv:Value} {x:Ms} {q:Tl} {f:Int->Int->Int} {s:Sp} {k:Nat}

theorem Jop(h:Bgn p fuel w M mb x q f s k)(a b c n:Int)(hI:p.ins s.pl.at_=⟨9,a,b,c,n⟩)(a0:0<=a)(a1:a < 10):
  Acts 71 9 a b c n w M mb rv cv (x.begun s) q (s.seen++[⟨1,s.pl.at_,0⟩]) (GoodS p fuel s k mb 9):=by
 refine⟨fun w1 mo r1 b1=>?_⟩;cases ha:s.ahead with
 | false=>
  have e:=J75 hI rfl ha;refine(Jjm 9 a b c n w1 M rv cv _ { x.begun s with val:=x.r a.toNat,fin:=1,ended:=true,mo:=mo } q q _ (s.seen++[⟨1,s.pl.at_,0⟩]) r1 (by rw[h.sim.ahead];exact ha) (fun w2 m2=>?_)).mono ?_
  ·refine(do_9 a b c n w2 M rv cv _ _ (r1.more m2).run a0 a1).mono ?_
   rintro e w' ⟨rfl,r2,b2⟩;exact⟨rfl,⟨r2⟩,b2⟩
  ·rintro e' w' ⟨rfl,r2,b2⟩
   refine⟨rfl,Below.mono b2 (Nat.le_of_lt h.mM),{ x.begun s with val:=x.r a.toNat,fin:=1,ended:=true },q,_,⟨f,h.hmb,(h.keep b1 b2).1,by rw[e];exact(h.keep b1 b2).2,by rw[e];rfl,?_⟩,r2⟩;rw[e];exact⟨rfl,by dsimp only;rw[h.sim.r],by dsimp only[Ms.begun];rw[h.sim.steps],rfl,by rw[h.sim.ahead];exact ha,h.sim.wd,h.sim.st⟩
 | true=>
  have e:=J32 hI (.inl ⟨rfl,ha⟩);refine(J90 9 a b c n w1 M rv cv _ q _ r1 (by rw[h.sim.ahead];exact ha)).mono ?_;rintro e' w' ⟨rfl,m2⟩;have b2:=Below.mono m2 (Nat.le_of_lt r1.lt);refine⟨rfl,Below.mono b2 (Nat.le_of_lt h.mM),x.begun s,q,_,⟨f,h.hmb,(h.keep b1 b2).1,by rw[e];exact(h.keep b1 b2).2,by rw[e];rfl,?_⟩,r1.more m2⟩;rw[e];exact⟨h.on,by simp;exact ha,fun _=>ha⟩

theorem Joo(h:Bgn p fuel w M mb x q f s k)(a b c n:Int)(hI:p.ins s.pl.at_=⟨8,a,b,c,n⟩)(a0:0<=a)(a1:a < 10)(b0:0<=b)(b1:b < 10)(n0:0<=n):
  Acts 68 8 a b c n w M mb rv cv (x.begun s) q (s.seen++[⟨1,s.pl.at_,0⟩]) (GoodS p fuel s k mb 8):=by
 refine⟨fun w1 mo r1 bw1=>?_⟩;obtain⟨hh,hhh⟩:∃hh,J1n c (s.pl.r a.toNat) (s.pl.r b.toNat)=hh:=⟨_,rfl⟩;have hhx:J1n c (x.r a.toNat) (x.r b.toNat)=hh:=by rw[h.sim.r];exact hhh
 have e:=Jbr hI rfl hh hhh _ _ rfl rfl;dsimp only at e
 have hst:0<=(x.begun s).steps/\(x.begun s).steps<=100000:=by
  have:=h.some_;have:=h.most;dsimp only[Ms.begun];rw[h.sim.steps];omega
 have hk0:=h.keep bw1 (Below.refl M w1)
 have hB:=Jeq a b c n (if hh=true then(s.pl.at_:Int)+1 else n) hh w1 M mb rv cv { x.begun s with mo:=mo } (if hh=true then { x.begun s with next:=n } else x.begun s) q (s.seen++[⟨1,s.pl.at_,0⟩]) s.script r1 (Nat.le_of_lt h.mM) hk0.2
  (by cases hh<;>exact hst.1) (by cases hh<;>exact hst.2) (by cases hh<;>rfl)
  (fun w2 mo2 r2=>by
   have:=seq_holds 8 a b c n _ _ w2 M a0 a1 b0 b1 (r2.run.r a.toNat (by omega)).1 (r2.run.r b.toNat (by omega)).1 r2.lt;have e2:J1n c ((x.begun s).r a.toNat) ((x.begun s).r b.toNat)=hh:=hhx;dsimp only at this;rw[e2]at this;exact this)
  (fun w2 mo2 r2=>by
   cases hh with
   | true=>
    refine(do_8y a b c n w2 M rv cv _ _ r2.run a0 a1 b0 b1 hhx).mono ?_;rintro e w' ⟨rfl,r3,b3⟩;exact⟨rfl,⟨r3⟩,b3⟩
   | false=>
    refine(do_8n a b c n w2 M rv cv _ _ r2.run a0 a1 b0 b1 hhx).mono ?_;rintro e w' ⟨rfl,r3,b3⟩;exact⟨rfl,⟨r3⟩,b3⟩)
 refine hB.mono ?_;rintro e' w' ⟨rfl,b2,sc',hsc,hr⟩;have hmap:=(h.keep bw1 b2).1;have hch:s.choice=s.script.headD 0:=rfl
 have hon2:Sim p fuel (if hh=true then { x.begun s with next:=n } else x.begun s) { q with sc:=sc' } f { (s.see ⟨1,s.pl.at_,0⟩).go (if hh=true then n.toNat else s.pl.at_+1) with script:=s.script.tail } (k+1) (s.since+1):=by
  cases hh with
  | true=>exact(h.on.go n.toNat n (by omega)).tail sc'
  | false=>exact h.on.tail sc'
 by_cases hc:s.script.headD 0=0
 ·rw[if_pos hc,if_pos hc]at hr
  rw[if_pos (by rw[hch];exact hc)]at e;refine⟨rfl,Below.mono b2 (Nat.le_of_lt h.mM),(if hh=true then { x.begun s with next:=n } else x.begun s),{ q with sc:=sc' },_,⟨f,h.hmb,hmap,by rw[e];exact hsc,by rw[e];rfl,?_⟩,hr⟩;rw[e];exact⟨hon2,by simp,by simp⟩
 ·rw[if_neg hc,if_neg hc]at hr
  rw[if_neg (by rw[hch];exact hc)]at e;refine⟨rfl,Below.mono b2 (Nat.le_of_lt h.mM),{ (if hh=true then { x.begun s with next:=n } else x.begun s) with next:=(if hh=true then(s.pl.at_:Int)+1 else n)},_,_,⟨f,?_,hmap,?_,by rw[e];show _=(Sp.leave _).seen;rw[J9x];rfl,?_⟩,hr⟩
  ·unfold Tl.left;split<;>exact h.hmb
  ·rw[e]
   have e1:∀y:Sp,y.leave.script=y.script:=fun y=>by unfold Sp.leave;split<;>rfl
   show ScAt w' mb (Tl.left { q with sc:=sc' } _).sc (Sp.leave _).script;rw[e1];have e2:∀(z:Tl) (y:Ms),(z.left y).sc=z.sc:=fun z y=>by unfold Tl.left;split<;>rfl
   rw[e2];exact hsc
  ·rw[e]
   refine⟨?_,by simp,by simp⟩;have hl:=Sim.leave (s:={ (s.see ⟨1,s.pl.at_,0⟩).go (if hh=true then n.toNat else s.pl.at_+1) with script:=s.script.tail }) hon2;exact hl.go (if hh=true then s.pl.at_+1 else n.toNat) _ (by cases hh<;>simp<;>omega)

theorem Jj3(h:Bgn p fuel w M mb x q f s k)(i:Ins)(hc:i.c.toNat<=p.rl):numI (x.begun s) i=numS p s i:=by
 unfold numI numS;have e1:(x.begun s).st i.c.toNat=baseI p.log i.c.toNat:=h.sim.st _ hc;have e2:(x.begun s).r=s.pl.r:=h.sim.r;rw[e1,e2,Int.add_comm]

theorem Bgn.num(h:Bgn p fuel w M mb x q f s k)(i:Ins)(se:List Se)(hop:i.op=3\/i.op=4\/i.op=5\/i.op=6)(b0:0<=i.b)(b1:i.b < 10)(c0:0<=i.c)(c1:i.c < p.rl)(t:Bool)(ht:t=true↔(0<=idxI s.pl.r i/\idxI s.pl.r i < J0h (p.log i.c.toNat)))(mo:List (Nat × Obj)):
  J7c i.op i.a i.b i.c i.n (numS p s i) t M rv cv { x.begun s with mo:=mo } q se:=by
 intro w1 mo1 r1;have hb:=h.base i.c.toNat (by omega);have hsx:=h.six;have e1:x.st i.c.toNat=baseI p.log i.c.toNat:=h.sim.st _ (by omega);have e2:x.st (i.c.toNat+1)=baseI p.log (i.c.toNat+1):=h.sim.st _ (by omega);have hN:=J9l i w1 M rv cv _ se r1.run hop b0 b1 c0 (by omega) (by show 0<=x.st i.c.toNat;rw[e1];exact hb.1) (by show x.st i.c.toNat<=x.st (i.c.toNat+1);rw[e1,e2];omega) (by show x.st (i.c.toNat+1)<=384;rw[e2];exact hb.2.2.2);refine hN.mono ?_;rintro e w' ⟨rfl,m⟩;refine⟨?_,m⟩;have e3:numI ({ { { x.begun s with mo:=mo } with mo:=mo1 } with T:=98,tl:=tlF q }:Ms) i=numS p s i:=Jj3 h i (by omega)
 have e4:decide (0<=idxI x.r i/\idxI x.r i < x.st (i.c.toNat+1) - x.st i.c.toNat)=t:=by
  rw[h.sim.r,e1,e2];cases t with
  | true=>exact decide_eq_true (by have:=ht.1 rfl;omega)
  | false=>exact decide_eq_false (fun hh=>by have:=ht.2 (by omega);cases this)
 have e5:(decide (0<=idxI (x.begun s).r i/\idxI (x.begun s).r i < (x.begun s).st (i.c.toNat+1) - (x.begun s).st i.c.toNat))=t:=e4;dsimp only at e3 |-;rw[e3,e5]

theorem Bgn.len(h:Bgn p fuel w M mb x q f s k):(s.seen++[(⟨1,s.pl.at_,0⟩:Se)]).length<=200000:=by
 have:=h.inv.seen;have:=h.some_;have:=h.most
 simp
 omega
theorem Bgn.steps(h:Bgn p fuel w M mb x q f s k):0<=(x.begun s).steps/\(x.begun s).steps<=100000:=by
 have:=h.some_;have:=h.most;dsimp only[Ms.begun];rw[h.sim.steps];omega
theorem Bgn.puts(h:Bgn p fuel w M mb x q f s k)(j:Nat)(hj:(j:Int) < allI p):0<=q.puts j/\q.puts j<=100000:=by
 have:=h.inv.pl.past j;have:=h.some_;have:=h.most;rw[h.sim.puts j hj];omega

theorem Jc0(h:Bgn p fuel w M mb x q f s k)(ra:Option Addr)(rc:Nat)(hrv:rv=.slice ra p.rl rc)(op a b c n:Int)(hop:op=3\/op=5)(hI:p.ins s.pl.at_=⟨op,a,b,c,n⟩)(a0:0<=a)(a1:a < 10)(b0:0<=b)(b1:b < 10)(c0:0<=c)(c1:c < p.rl):
  Acts 69 op a b c n w M mb rv cv (x.begun s) q (s.seen++[⟨1,s.pl.at_,0⟩]) (GoodS p fuel s k mb op):=by
 subst hrv;have hop':op=3\/op=4\/op=5\/op=6:=by omega
 have hput:putI ⟨op,a,b,c,n⟩=0:=J4s hop;have hov:∀y:Sp,(false=true↔(op=12\/op=9/\y.ahead=true)):=fun y=>by simp;omega
 have hsix:=h.six;have hall:x.st p.rl=allI p:=h.sim.st _ (Nat.le_refl _);refine⟨fun w1 mo r1 bw1=>?_⟩;have hk0:=h.keep bw1 (Below.refl M w1);by_cases hx:s.ahead=false/\(idxI s.pl.r ⟨op,a,b,c,n⟩ < 0\/J0h (p.log c.toNat)<=idxI s.pl.r ⟨op,a,b,c,n⟩)
 ·have e:=J4c hI hop' hx.1 hx.2
  refine(Jda op a b c n _ w1 M _ cv _ q _ r1 (by rw[h.sim.ahead];exact hx.1) (h.num ⟨op,a,b,c,n⟩ _ hop' b0 b1 c0 c1 false (by simp;omega) mo)).mono ?_;rintro e' w' ⟨rfl,r2,b2⟩;refine⟨rfl,Below.mono b2 (Nat.le_of_lt h.mM),{ x.begun s with fin:=2,ended:=true },q,_,⟨f,h.hmb,(h.keep bw1 b2).1,by rw[e];exact(h.keep bw1 b2).2,by rw[e];rfl,?_⟩,r2⟩;rw[e];exact⟨rfl,h.sim.val,by dsimp only[Ms.begun];rw[h.sim.steps],rfl,by rw[h.sim.ahead];exact hx.1,h.sim.wd,h.sim.st⟩
 ·have e:=J5b hI hop' hx
  rw[hput]at e;obtain⟨t,ht⟩:∃t:Bool,t=true↔(0<=idxI s.pl.r ⟨op,a,b,c,n⟩/\idxI s.pl.r ⟨op,a,b,c,n⟩ < J0h (p.log c.toNat)):=⟨decide (0<=idxI s.pl.r ⟨op,a,b,c,n⟩/\idxI s.pl.r ⟨op,a,b,c,n⟩ < J0h (p.log c.toNat)),by simp⟩
  have hok:t=true\/q.ahead=true:=by
   rw[h.sim.ahead];cases hah:s.ahead with
   | true=>exact .inr rfl
   | false=>left;exact ht.2 (by have:¬_:=fun hh=>hx ⟨hah,hh⟩;omega)
  have hN:=h.num (rv:=.slice ra p.rl rc) (cv:=cv) ⟨op,a,b,c,n⟩ (s.seen++[⟨1,s.pl.at_,0⟩]) hop' b0 b1 c0 c1 t ht mo;obtain⟨N,hNN⟩:∃N,numS p s ⟨op,a,b,c,n⟩=N:=⟨_,rfl⟩;rw[hNN]at e hN;dsimp only at hN;by_cases hin:0<=N/\N < allI p
  ·have hN2:((N.toNat:Nat):Int) < allI p:=by omega
   have hpu:=h.puts N.toNat hN2;have hpl:=h.sim.puts N.toNat hN2;have hall2:=h.all
   have ew:wordS p (s.on.see ⟨2,N,0⟩) ⟨op,a,b,c,n⟩ N=if 0 < s.choice/\s.choice<=((s.pl.past N.toNat).length:Int) then
     (({ s.on.see ⟨2,N,0⟩ with script:=s.script.tail }.reg a (s.pl.wd N.toNat)).leave).reg a ((s.pl.past N.toNat).getD ((s.pl.past N.toNat).length - s.choice.toNat) 0)
     else { s.on.see ⟨2,N,0⟩ with script:=s.script.tail }.reg a (s.pl.wd N.toNat):=by
    unfold wordS;rw[if_neg (by omega),if_neg (by rw[hput];decide)]
    rfl
   rw[ew]at e
   have hsc0:0<=s.script.headD 0:=by
    cases hs:s.script with
    | nil=>simp
    | cons y l=>exact h.inv.sc y (by rw[hs];simp)
   have hwd:x.wd N.toNat=s.pl.wd N.toNat:=h.sim.wd _ hN2;by_cases hc:0 < s.script.headD 0/\s.script.headD 0<=q.puts N.toNat
   ·have hc2:0 < s.choice/\s.choice<=((s.pl.past N.toNat).length:Int):=by rw[<-hpl];exact hc
    rw[if_pos hc2]at e;refine(Jbp op a b c n N t w1 M mb ra p.rl rc cv _ q _ s.script f r1 h.len hok hsix a0 a1 (by show 0<=N/\N < x.st p.rl;rw[hall];exact hin) (by show x.st p.rl<=384;rw[hall];exact hall2) hpu.2 (by rw[h.hmb];exact h.mM) (Nat.le_of_lt h.mM) h.steps.1 h.steps.2 hk0.2 (by rw[h.hmb];exact hk0.1) hc hN).mono ?_;rintro e' w' ⟨rfl,b2,sc',hsc,hr⟩
    have hv:f N (q.puts N.toNat - s.script.headD 0)=(s.pl.past N.toNat).getD ((s.pl.past N.toNat).length - s.choice.toNat) 0:=by
     have hch:s.choice=s.script.headD 0:=rfl;have hlt:(s.pl.past N.toNat).length - s.choice.toNat < (s.pl.past N.toNat).length:=by omega
     have h1:=h.sim.was N.toNat hN2 _ _ (List.getElem?_eq_getElem hlt);rw[List.getD_eq_getElem?_getD,List.getElem?_eq_getElem hlt,Option.getD_some,<-h1,hpl]
     congr 1
     ·omega
     ·omega
    rw[hv]at hr;have hl0:Sim p fuel { x.begun s with r:=setR x.r a (s.pl.wd N.toNat)} { q with sc:=sc' } f ({ s.on.see ⟨2,N,0⟩ with script:=s.script.tail }.reg a (s.pl.wd N.toNat)) (k+1) (s.since+1):=((h.on.see ⟨2,N,0⟩).tail sc').reg a (s.pl.wd N.toNat);have hl:=Sim.leave (s:={ s.on.see ⟨2,N,0⟩ with script:=s.script.tail }.reg a (s.pl.wd N.toNat)) hl0;have hl2:=hl.reg a ((s.pl.past N.toNat).getD ((s.pl.past N.toNat).length - s.choice.toNat) 0)
    have hr2:RunS w' M (.slice ra p.rl rc) cv { x.begun s with r:=setR (setR x.r a (s.pl.wd N.toNat)) a ((s.pl.past N.toNat).getD ((s.pl.past N.toNat).length - s.choice.toNat) 0),mo:=mo } (Tl.left { q with sc:=sc' } { x.begun s with r:=setR x.r a (s.pl.wd N.toNat)}) (s.seen++[⟨1,s.pl.at_,0⟩]++[⟨2,N,0⟩]):=by
     rw[<-hwd];exact hr
    refine⟨rfl,Below.mono b2 (Nat.le_of_lt h.mM),{ x.begun s with r:=setR (setR x.r a (s.pl.wd N.toNat)) a ((s.pl.past N.toNat).getD ((s.pl.past N.toNat).length - s.choice.toNat) 0)},Tl.left { q with sc:=sc' } { x.begun s with r:=setR x.r a (s.pl.wd N.toNat)},_,⟨f,?_,(h.keep bw1 b2).1,?_,?_,?_⟩,hr2⟩
    ·unfold Tl.left;split<;>exact h.hmb
    ·rw[e]
     have e1:∀y:Sp,y.leave.script=y.script:=fun y=>by unfold Sp.leave;split<;>rfl
     show ScAt w' mb (Tl.left { q with sc:=sc' } _).sc (Sp.leave _).script;rw[e1];have e2:∀(z:Tl) (y:Ms),(z.left y).sc=z.sc:=fun z y=>by unfold Tl.left;split<;>rfl
     rw[e2];exact hsc
    ·rw[e];show _=(Sp.leave _).seen;rw[J9x];rfl
    ·rw[e]
     exact⟨hl2,hov _,fun e=>by omega⟩
   ·have hc2:¬(0 < s.choice/\s.choice<=((s.pl.past N.toNat).length:Int)):=by rw[<-hpl];exact hc
    rw[if_neg hc2]at e;refine(J93 op a b c n N t w1 M mb ra p.rl rc cv _ q _ s.script f r1 h.len hok hsix a0 a1 (by show 0<=N/\N < x.st p.rl;rw[hall];exact hin) (by show x.st p.rl<=384;rw[hall];exact hall2) hpu.2 (by rw[h.hmb];exact h.mM) (Nat.le_of_lt h.mM) h.steps.1 h.steps.2 hk0.2 (by rw[h.hmb];exact hk0.1) (by omega) hN).mono ?_;rintro e' w' ⟨rfl,b2,sc',hsc,hr⟩
    have hr2:RunS w' M (.slice ra p.rl rc) cv { x.begun s with r:=setR x.r a (s.pl.wd N.toNat),mo:=mo } { q with sc:=sc' } (s.seen++[⟨1,s.pl.at_,0⟩]++[⟨2,N,0⟩]):=by
     rw[<-hwd];exact hr
    refine⟨rfl,Below.mono b2 (Nat.le_of_lt h.mM),{ x.begun s with r:=setR x.r a (s.pl.wd N.toNat)},{ q with sc:=sc' },_,⟨f,h.hmb,(h.keep bw1 b2).1,by rw[e];exact hsc,by rw[e];rfl,?_⟩,hr2⟩;rw[e];exact⟨((h.on.see ⟨2,N,0⟩).tail sc').reg a (s.pl.wd N.toNat),hov _,fun e=>by omega⟩
  ·have ew:wordS p (s.on.see ⟨2,N,0⟩) ⟨op,a,b,c,n⟩ N=(s.on.see ⟨2,N,0⟩).reg a 0:=by
    unfold wordS;rw[if_pos (by omega),if_pos hput]
   rw[ew]at e;refine(Jbo op a b c n N t w1 M ra p.rl rc cv _ q _ r1 h.len hok hsix a0 a1 (by show¬(0<=N/\N < x.st p.rl);rw[hall];exact hin) hN).mono ?_;rintro e' w' ⟨rfl,r2,b2⟩;refine⟨rfl,Below.mono b2 (Nat.le_of_lt h.mM),{ x.begun s with r:=setR x.r a 0 },q,_,⟨f,h.hmb,(h.keep bw1 b2).1,by rw[e];exact(h.keep bw1 b2).2,by rw[e];rfl,?_⟩,r2⟩;rw[e];exact⟨(h.on.see ⟨2,N,0⟩).reg a 0,hov _,fun e=>by omega⟩

theorem Jfc(h:Bgn p fuel w M mb x q f s k)(ra:Option Addr)(rc:Nat)(hrv:rv=.slice ra p.rl rc)(op a b c n:Int)(hop:op=4\/op=6)(hI:p.ins s.pl.at_=⟨op,a,b,c,n⟩)(a0:0<=a)(a1:a < 10)(b0:0<=b)(b1:b < 10)(c0:0<=c)(c1:c < p.rl):
  Acts 70 op a b c n w M mb rv cv (x.begun s) q (s.seen++[⟨1,s.pl.at_,0⟩]) (GoodS p fuel s k mb op):=by
 subst hrv;have hop':op=3\/op=4\/op=5\/op=6:=by omega
 have hput:putI ⟨op,a,b,c,n⟩=1:=J6e hop;have hov:∀y:Sp,(false=true↔(op=12\/op=9/\y.ahead=true)):=fun y=>by simp;omega
 have hsix:=h.six;have hall:x.st p.rl=allI p:=h.sim.st _ (Nat.le_refl _);refine⟨fun w1 mo r1 bw1=>?_⟩;have hk0:=h.keep bw1 (Below.refl M w1);by_cases hx:s.ahead=false/\(idxI s.pl.r ⟨op,a,b,c,n⟩ < 0\/J0h (p.log c.toNat)<=idxI s.pl.r ⟨op,a,b,c,n⟩)
 ·have e:=J4c hI hop' hx.1 hx.2
  refine(Jer op a b c n _ w1 M _ cv _ q _ r1 (by rw[h.sim.ahead];exact hx.1) (h.num ⟨op,a,b,c,n⟩ _ hop' b0 b1 c0 c1 false (by simp;omega) mo)).mono ?_;rintro e' w' ⟨rfl,r2,b2⟩;refine⟨rfl,Below.mono b2 (Nat.le_of_lt h.mM),{ x.begun s with fin:=2,ended:=true },q,_,⟨f,h.hmb,(h.keep bw1 b2).1,by rw[e];exact(h.keep bw1 b2).2,by rw[e];rfl,?_⟩,r2⟩;rw[e];exact⟨rfl,h.sim.val,by dsimp only[Ms.begun];rw[h.sim.steps],rfl,by rw[h.sim.ahead];exact hx.1,h.sim.wd,h.sim.st⟩
 ·have e:=J5b hI hop' hx
  rw[hput]at e;obtain⟨t,ht⟩:∃t:Bool,t=true↔(0<=idxI s.pl.r ⟨op,a,b,c,n⟩/\idxI s.pl.r ⟨op,a,b,c,n⟩ < J0h (p.log c.toNat)):=⟨decide (0<=idxI s.pl.r ⟨op,a,b,c,n⟩/\idxI s.pl.r ⟨op,a,b,c,n⟩ < J0h (p.log c.toNat)),by simp⟩
  have hok:t=true\/q.ahead=true:=by
   rw[h.sim.ahead];cases hah:s.ahead with
   | true=>exact .inr rfl
   | false=>left;exact ht.2 (by have:¬_:=fun hh=>hx ⟨hah,hh⟩;omega)
  have hN:=h.num (rv:=.slice ra p.rl rc) (cv:=cv) ⟨op,a,b,c,n⟩ (s.seen++[⟨1,s.pl.at_,0⟩]) hop' b0 b1 c0 c1 t ht mo;obtain⟨N,hNN⟩:∃N,numS p s ⟨op,a,b,c,n⟩=N:=⟨_,rfl⟩;rw[hNN]at e hN;dsimp only at hN;by_cases hin:0<=N/\N < allI p
  ·have hN2:((N.toNat:Nat):Int) < allI p:=by omega
   have hpu:=h.puts N.toNat hN2;have hall2:=h.all
   have ew:wordS p (s.on.see ⟨2,N,1⟩) ⟨op,a,b,c,n⟩ N={ s.on.see ⟨2,N,1⟩ with pl:={ (s.on.see ⟨2,N,1⟩).pl with past:=setF s.pl.past N.toNat (s.pl.past N.toNat++[s.pl.wd N.toNat]),wd:=setF s.pl.wd N.toNat (s.pl.r a.toNat)} }:=by
    unfold wordS;rw[if_neg (by omega),if_pos hput]
    rfl
   rw[ew]at e;refine(Jbm op a b c n N t w1 M ra p.rl rc cv _ q _ f r1 h.len hok hsix a0 a1 (by show 0<=N/\N < x.st p.rl;rw[hall];exact hin) (by show x.st p.rl<=384;rw[hall];exact hall2) hpu.1 hpu.2 (by rw[h.hmb];exact h.mM) (by rw[h.hmb];exact hk0.1) hN).mono ?_;rintro e' w' ⟨rfl,b2,hm2,hr⟩;rw[h.hmb]at b2 hm2;refine⟨rfl,b2,{ x.begun s with wd:=setN x.wd N.toNat (x.r a.toNat)},{ q with puts:=setN q.puts N.toNat (q.puts N.toNat+1)},_,⟨_,h.hmb,hm2,by rw[e];exact hk0.2.below b2,by rw[e];rfl,?_⟩,hr⟩;rw[e];exact⟨(h.on.see ⟨2,N,1⟩).put N hin.1 hin.2 a (x.r a.toNat) rfl,hov _,fun e=>by omega⟩
  ·have ew:wordS p (s.on.see ⟨2,N,1⟩) ⟨op,a,b,c,n⟩ N=s.on.see ⟨2,N,1⟩:=by
    unfold wordS;rw[if_pos (by omega),if_neg (by rw[hput];decide)]
   rw[ew]at e;refine(Jd8 op a b c n N t w1 M ra p.rl rc cv _ q _ r1 h.len hok hsix (by show¬(0<=N/\N < x.st p.rl);rw[hall];exact hin) hN).mono ?_;rintro e' w' ⟨rfl,r2,b2⟩;refine⟨rfl,Below.mono b2 (Nat.le_of_lt h.mM),x.begun s,q,_,⟨f,h.hmb,(h.keep bw1 b2).1,by rw[e];exact(h.keep bw1 b2).2,by rw[e];rfl,?_⟩,r2⟩;rw[e];exact⟨h.on.see ⟨2,N,1⟩,hov _,fun e=>by omega⟩
end
theorem Jc2(s:Sp)(o:Bool):(s.after o).script=s.script:=by
 unfold Sp.after
 split
 ·split<;>rfl
 ·rfl

structure J7v(p:Prg)(fuel:Nat)(s:Sp)(k mb:Nat)(w:World)(x:Ms)(q:Tl)(se:List Se):Prop where
 out:∃f,q.mb=mb/\MapAt w mb f/\ScAt w mb q.sc (stepS p s).1.script/\
  match (stepS p s).2.2 with
  | none=>Sim p fuel x q f ((stepS p s).1.after (stepS p s).2.1) (k+1) ((stepS p s).1.after (stepS p s).2.1).since/\se=((stepS p s).1.after (stepS p s).2.1).seen
  | some e=>Jmp p x q s.pl.wd e.1 e.2 ((k:Int)+1)/\se=(stepS p s).1.seen

theorem GoodS.told{p:Prg}{fuel:Nat}{s:Sp}{k mb:Nat}{op:Int}{w:World}{x:Ms}{q:Tl}{se:List Se}(h:GoodS p fuel s k mb op w x q se):J7v p fuel s k mb w (backX (endsS op x q) x q) (backQ (endsS op x q) q) (J1f (endsS op x q) se):=by
 obtain⟨f,h1,h2,h3,rfl,h5⟩:=h.out;have e1:(backQ (endsS op x q) q).mb=q.mb:=by unfold backQ;split<;>rfl
 have e2:(backQ (endsS op x q) q).sc=q.sc:=by unfold backQ;split<;>rfl
 refine⟨f,by rw[e1];exact h1,h2,by rw[e2];exact h3,?_⟩;cases hq:(stepS p s).2.2 with
 | none=>
  rw[hq]at h5;dsimp only at h5 |-;exact Sim.after h5.1 op _ h5.2.1 h5.2.2
 | some e=>
  rw[hq]at h5;dsimp only at h5 |-;have e0:endsS op x q=false:=by unfold endsS;rw[h5.ahead];rfl
  rw[e0];exact⟨h5,rfl⟩

theorem GoodS.below{p:Prg}{fuel:Nat}{s:Sp}{k mb M:Nat}(hm:mb < M){op:Int}{w1 w2:World}{x:Ms}{q:Tl}{se:List Se}(h:GoodS p fuel s k mb op w1 x q se)(b:Below M w1 w2):GoodS p fuel s k mb op w2 x q se:=by
 obtain⟨f,h1,h2,h3,h4,h5⟩:=h.out;exact⟨f,h1,h2.below b hm,h3.below (Below.mono b (Nat.le_of_lt hm)),h4,h5⟩

theorem Jbn{p:Prg}{fuel:Nat}{w:World}{M mb:Nat}{x:Ms}{q:Tl}{f:Int->Int->Int}{s:Sp}{k:Nat}(ra:Option Addr)(rc cb co cc:Nat)(h:Bgn p fuel w M mb x q f s k)(hat:s.pl.at_ < p.cl)(hcl:p.cl<=8000)(hcb:cb < M)
  (hin:InsOk p.rl p.log p.cl 10 (p.ins s.pl.at_)) (hn64:B64 (p.ins s.pl.at_).n)
  (hcode:w.cell? ⟨cb,co+s.pl.at_*5,none⟩=some (V (p.ins s.pl.at_).op)/\w.cell? ⟨cb,co+s.pl.at_*5+1,none⟩=some (V (p.ins s.pl.at_).a)/\w.cell? ⟨cb,co+s.pl.at_*5+2,none⟩=some (V (p.ins s.pl.at_).b)/\w.cell? ⟨cb,co+s.pl.at_*5+3,none⟩=some (V (p.ins s.pl.at_).c)/\w.cell? ⟨cb,co+s.pl.at_*5+4,none⟩=some (V (p.ins s.pl.at_).n))
  (hr:RunS w M (.slice ra p.rl rc) (.slice (some ⟨cb,co,none⟩) p.cl cc) x q s.seen):
  Calls Tryz.prog 31 #[.pointer (some ⟨M,0,none⟩)] w fun e w'=>e=.returned (.tuple #[])/\Below mb w w'/\∃x' q' se',J7v p fuel s k mb w' x' q' se'/\RunS w' M (.slice ra p.rl rc) (.slice (some ⟨cb,co,none⟩) p.cl cc) { x' with mo:=x.mo } q' se':=by
 have hsl:s.seen.length<=200000:=by
  have:=h.inv.seen;have:=h.some_;have:=h.most;omega
 obtain⟨i,hI⟩:∃i,p.ins s.pl.at_=i:=⟨_,rfl⟩;rw[hI]at hin hcode hn64;obtain⟨op,a,b,c,n⟩:=i;dsimp only at hcode hn64
 have hBg:Calls Tryz.prog 27 #[.pointer (some ⟨M,0,none⟩)] w fun e w'=>e=.returned (.agg #[V op,V a,V b,V c,V n])/\RunS w' M (.slice ra p.rl rc) (.slice (some ⟨cb,co,none⟩) p.cl cc) (x.begun s) q (s.seen++[⟨1,s.pl.at_,0⟩])/\Below M w w':=by
  refine(Jd6 op a b c n w M (.slice ra p.rl rc) cb co p.cl cc s.pl.at_ { x with T:=98,tl:=tlF q } s.seen hsl h.sim.next hat hcl (by show 0<=x.steps;rw[h.sim.steps];omega) (by show x.steps<=40000;rw[h.sim.steps];have:=h.some_;have:=h.most;omega) hcb hcode.1 hcode.2.1 hcode.2.2.1 hcode.2.2.2.1 hcode.2.2.2.2 hr.run).mono ?_;rintro e w' ⟨rfl,r2,b2⟩;exact⟨rfl,⟨r2⟩,b2⟩
 have hlen:∀w1 x2 q2 se2,GoodS p fuel s k mb op w1 x2 q2 se2->se2.length<=200000:=by
  intro w1 x2 q2 se2 hg;obtain⟨_,_,_,_,rfl,_⟩:=hg.out;have h1:=(h.inv.step hat (by rw[hI];exact hin) (by rw[hI];exact hn64)).seen;have:=h.some_;have:=h.most;omega
 have fin:∀(e:Ending) (w':World),(e=.returned (.tuple #[])/\Below mb w w'/\∃x2 q2 se2,GoodS p fuel s k mb op w' x2 q2 se2/\RunS w' M (.slice ra p.rl rc) (.slice (some ⟨cb,co,none⟩) p.cl cc) { backX (endsS op x2 q2) x2 q2 with mo:=x.mo } (backQ (endsS op x2 q2) q2) (J1f (endsS op x2 q2) se2))->
   e=.returned (.tuple #[])/\Below mb w w'/\∃x' q' se',J7v p fuel s k mb w' x' q' se'/\RunS w' M (.slice ra p.rl rc) (.slice (some ⟨cb,co,none⟩) p.cl cc) { x' with mo:=x.mo } q' se':=by
  rintro e w' ⟨rfl,b2,x2,q2,se2,hg,r2⟩;exact⟨rfl,b2,_,_,_,hg.told,r2⟩
 have hst:∀w1 w2 x2 q2 se2,GoodS p fuel s k mb op w1 x2 q2 se2->Below M w1 w2->GoodS p fuel s k mb op w2 x2 q2 se2:=fun w1 w2 x2 q2 se2 hg hb=>hg.below h.mM hb
 have hw:∀(hop:op=3\/op=4\/op=5\/op=6),0<=a/\a < 10/\0<=b/\b < 10/\0<=c/\c < p.rl:=by
  intro hop;unfold InsOk Reg Rgn at hin;dsimp only at hin;rcases hop with rfl | rfl | rfl | rfl<;>simp at hin<;>omega
 by_cases h8:op=8
 ·subst h8
  have hin2:=hin;unfold InsOk Reg Plc at hin2;simp at hin2;exact(Jew a b c n w M mb _ _ x (x.begun s) q _ _ (Nat.le_of_lt h.mM) rfl hr.lt hst hlen hBg (Joo h a b c n hI (by omega) (by omega) (by omega) (by omega) (by omega))).mono fin
 by_cases h9:op=9
 ·subst h9
  have hin2:=hin;unfold InsOk Reg at hin2;simp at hin2;exact(Jex a b c n w M mb _ _ x (x.begun s) q _ _ (Nat.le_of_lt h.mM) rfl hr.lt hst hlen hBg (Jop h a b c n hI (by omega) (by omega))).mono fin
 by_cases h3:op=3
 ·subst h3
  have:=hw (by omega);exact(Jes a b c n w M mb _ _ x (x.begun s) q _ _ (Nat.le_of_lt h.mM) rfl hr.lt hst hlen hBg (Jc0 h ra rc rfl 3 a b c n (by omega) hI (by omega) (by omega) (by omega) (by omega) (by omega) (by omega))).mono fin
 by_cases h5:op=5
 ·subst h5
  have:=hw (by omega);exact(Jeu a b c n w M mb _ _ x (x.begun s) q _ _ (Nat.le_of_lt h.mM) rfl hr.lt hst hlen hBg (Jc0 h ra rc rfl 5 a b c n (by omega) hI (by omega) (by omega) (by omega) (by omega) (by omega) (by omega))).mono fin
 by_cases h4:op=4
 ·subst h4
  have:=hw (by omega);exact(Jet a b c n w M mb _ _ x (x.begun s) q _ _ (Nat.le_of_lt h.mM) rfl hr.lt hst hlen hBg (Jfc h ra rc rfl 4 a b c n (by omega) hI (by omega) (by omega) (by omega) (by omega) (by omega) (by omega))).mono fin
 by_cases h6:op=6
 ·subst h6
  have:=hw (by omega);exact(Jev a b c n w M mb _ _ x (x.begun s) q _ _ (Nat.le_of_lt h.mM) rfl hr.lt hst hlen hBg (Jfc h ra rc rfl 6 a b c n (by omega) hI (by omega) (by omega) (by omega) (by omega) (by omega) (by omega))).mono fin
 exact(J9m op a b c n w M mb _ _ x (x.begun s) q _ _ h3 h4 h5 h6 h8 h9 (Nat.le_of_lt h.mM) rfl hr.lt hst hlen hBg (Jhx h op a b c n hI hin h3 h4 h5 h6 h8 h9)).mono fin

structure WayS(p:Prg)(fuel g:Nat)(R:ShF)(x:Ms)(q:Tl)(f:Int->Int->Int)(se:List Se)(s:Sp)(k:Nat):Prop where
 kg:k+g=fuel
 sim:Sim p fuel x q f s k s.since
 seen:se=s.seen
 inv:InvS p k (4*k) s
 run:runS p g k s=R
structure FinS(p:Prg)(R:ShF)(x:Ms)(q:Tl)(se:List Se):Prop where
 fin:x.fin=R.fin
 val:x.val=R.val
 steps:x.steps=R.steps
 seen:se=R.seen
 wd:∀j:Nat,(j:Int) < allI p->(if q.ahead=true then q.bw else x.wd) j=R.wd j
 st:∀j,j<=p.rl->x.st j=baseI p.log j
 short:se.length<=200000

theorem WayS.mos{p:Prg}{fuel g:Nat}{R:ShF}{x:Ms}{q:Tl}{f:Int->Int->Int}{se:List Se}{s:Sp}{k:Nat}(h:WayS p fuel g R x q f se s k)(l:List (Nat × Obj)):WayS p fuel g R { x with mo:=l } q f se s k:=⟨h.kg,h.sim.mos l,h.seen,h.inv,h.run⟩
theorem FinS.mos{p:Prg}{R:ShF}{x:Ms}{q:Tl}{se:List Se}(h:FinS p R x q se)(l:List (Nat × Obj)):FinS p R { x with mo:=l } q se:=⟨h.fin,h.val,h.steps,h.seen,h.wd,h.st,h.short⟩

theorem J8z{p:Prg}{fuel g:Nat}{R:ShF}{w:World}{M:Nat}{x:Ms}{q:Tl}{f:Int->Int->Int}{se:List Se}(rv:Value)(ca:Option Addr)(cc:Nat)(hf:fuel<=40000)(hr:RunS w M rv (.slice ca p.cl cc) x q se)
  (Φ:Sp->Prop) (hw:(∃s k,WayS p fuel g R x q f se s k/\Φ s)\/(x.ended=true/\q.ahead=false/\FinS p R x q se)):
  Calls Tryz.prog 30 #[.pointer (some ⟨M,0,none⟩)] w fun e w'=>Below M w w'/\∃(b:Bool) (x':Ms) (q':Tl) (se':List Se),e=.returned (.bool b)/\RunS w' M rv (.slice ca p.cl cc) x' q' se'/\q'.mb=q.mb/\q'.sc=q.sc/\x'.mo=x.mo/\
   ((b=false/\FinS p R x' q' se')\/(b=true/\∃g' s k,g=g'+1/\k+g=fuel/\Sim p fuel x' q' f (s.noneLeft p.cl) k (s.noneLeft p.cl).since/\se'=(s.noneLeft p.cl).seen/\InvS p k (4*k+1) (s.noneLeft p.cl)/\(s.noneLeft p.cl).pl.at_ < p.cl/\(s.noneLeft p.cl).script=s.script/\WayS p fuel g R x q f se s k/\Φ s)):=by
 rcases hw with⟨s,k,hw,hΦ⟩ | ⟨he,ha,hfin⟩
 ·have hlen:se.length<=200000:=by rw[hw.seen];have:=hw.inv.seen;have:=hw.kg;omega
  cases g with
  | zero=>
   have hk:=hw.kg
   have hno:noneS p.cl x q=false:=by
    unfold noneS;rw[hw.sim.steps,hw.sim.fuel,decide_eq_false (by omega:¬((k:Int) < (fuel:Int)))]
    simp
   refine(J49 w M rv ca p.cl cc x { x with fin:=0,ended:=true } q se false hr hlen (fun w1 r1=>?_)).mono ?_
   ·rw[hno]at r1 |-
    refine(J4u w1 M rv _ _ _ r1.run hw.sim.ended (by show¬x.steps < x.fuel;rw[hw.sim.steps,hw.sim.fuel];omega)).mono ?_;rintro e w' ⟨rfl,r2,b2⟩;exact⟨rfl,⟨r2⟩,b2⟩
   ·rintro e w' ⟨rfl,r2,b2⟩
    rw[hno]at r2;have hR:=hw.run;rw[runS]at hR;subst hR;refine⟨b2,false,_,_,_,rfl,r2,rfl,rfl,rfl,.inl ⟨rfl,rfl,hw.sim.val,by show x.steps=_;rw[hw.sim.steps],by show se=_;rw[hw.seen],fun j hj=>?_,hw.sim.st,hlen⟩⟩;show(if q.ahead=true then q.bw else x.wd) j=s.real.wd j;unfold Sp.real;rw[hw.sim.ahead];by_cases ha:s.ahead=true
    ·rw[if_pos ha,if_pos ha];exact hw.sim.bw ha j hj
    ·rw[if_neg ha,if_neg ha];exact hw.sim.wd j hj
  | succ g'=>
   have hk:=hw.kg;obtain⟨hs,hse⟩:=hw.sim.noneLeft (by omega);have hse2:J1f (noneS p.cl x q) se=(s.noneLeft p.cl).seen:=by rw[hw.seen];exact hse
   have hinv:=hw.inv.noneLeft p.cl;have hsc:(s.noneLeft p.cl).script=s.script:=by unfold Sp.noneLeft;split<;>rfl
   have e1:(backQ (noneS p.cl x q) q).mb=q.mb:=by unfold backQ;split<;>rfl
   have e2:(backQ (noneS p.cl x q) q).sc=q.sc:=by unfold backQ;split<;>rfl
   have e3:(backX (noneS p.cl x q) x q).mo=x.mo:=by unfold backX;split<;>rfl
   have hsi:Sim p fuel (backX (noneS p.cl x q) x q) (backQ (noneS p.cl x q) q) f (s.noneLeft p.cl) k (s.noneLeft p.cl).since:=by
    have:(s.noneLeft p.cl).since=s.since:=by unfold Sp.noneLeft;split<;>rfl
    rw[this];exact hs
   by_cases hat:(s.noneLeft p.cl).pl.at_ < p.cl
   ·refine(J49 w M rv ca p.cl cc x (backX (noneS p.cl x q) x q) q se true hr hlen (fun w1 r1=>?_)).mono ?_
    ·refine(J6h w1 M rv ca p.cl cc _ _ r1.run hs.ended (by show(backX (noneS p.cl x q) x q).steps < (backX (noneS p.cl x q) x q).fuel;rw[hs.steps,hs.fuel];omega) (by show(backX (noneS p.cl x q) x q).next < _;rw[hs.next];omega)).mono ?_
     rintro e w' ⟨rfl,r2,b2⟩;exact⟨rfl,⟨r2⟩,b2⟩
    ·rintro e w' ⟨rfl,r2,b2⟩
     exact⟨b2,true,_,_,_,rfl,r2,e1,e2,e3,.inr ⟨rfl,g',s,k,rfl,hk,hsi,hse2,hinv,hat,hsc,hw,hΦ⟩⟩
   ·refine(J49 w M rv ca p.cl cc x { backX (noneS p.cl x q) x q with fin:=2,ended:=true } q se false hr hlen (fun w1 r1=>?_)).mono ?_
    ·refine(J4v w1 M rv ca p.cl cc _ _ r1.run hs.ended (by show(backX (noneS p.cl x q) x q).steps < (backX (noneS p.cl x q) x q).fuel;rw[hs.steps,hs.fuel];omega) (by show¬(backX (noneS p.cl x q) x q).next < _;rw[hs.next];omega)).mono ?_
     rintro e w' ⟨rfl,r2,b2⟩;exact⟨rfl,⟨r2⟩,b2⟩
    ·rintro e w' ⟨rfl,r2,b2⟩
     have hR:=hw.run;rw[runS,if_pos (by omega)]at hR;subst hR;have hna:=J9h (s:=s) (cl:=p.cl) (by omega);refine⟨b2,false,_,_,_,rfl,r2,e1,e2,e3,.inl ⟨rfl,rfl,hs.val,hs.steps,hse2,fun j hj=>?_,hs.st,by rw[hse2];have:=hinv.seen;omega⟩⟩;have hqa:(backQ (noneS p.cl x q) q).ahead=false:=by rw[hs.ahead];exact hna
     show(if(backQ (noneS p.cl x q) q).ahead=true then _ else(backX (noneS p.cl x q) x q).wd) j=(s.noneLeft p.cl).real.wd j;unfold Sp.real;rw[hqa,hna];simp only[Bool.false_eq_true,if_false];exact hs.wd j hj
 ·have hno:noneS p.cl x q=false:=by unfold noneS;rw[ha];rfl
  refine(J49 w M rv ca p.cl cc x x q se false hr hfin.short (fun w1 r1=>?_)).mono ?_
  ·rw[hno]at r1 |-
   refine(J4w w1 M rv _ _ _ r1.run he).mono ?_;rintro e w' ⟨rfl,r2,b2⟩;exact⟨rfl,⟨r2⟩,b2⟩
  ·rintro e w' ⟨rfl,r2,b2⟩
   rw[hno]at r2;exact⟨b2,false,_,_,_,rfl,r2,rfl,rfl,rfl,.inl ⟨rfl,hfin⟩⟩

theorem Jjv{p:Prg}{fuel g':Nat}{R:ShF}{x x':Ms}{q q':Tl}{f:Int->Int->Int}{se se':List Se}{s:Sp}{k mb:Nat}{w:World}(hf:fuel<=40000)(hw:WayS p fuel (g'+1) R x q f se s k)(hat:(s.noneLeft p.cl).pl.at_ < p.cl)(hin:InsOk p.rl p.log p.cl 10 (p.ins (s.noneLeft p.cl).pl.at_))(hn:B64 (p.ins (s.noneLeft p.cl).pl.at_).n)
  (ht:J7v p fuel (s.noneLeft p.cl) k mb w x' q' se'):
  ∃f',q'.mb=mb/\MapAt w mb f'/\((∃s' k',WayS p fuel g' R x' q' f' se' s' k'/\ScAt w mb q'.sc s'.script)\/(x'.ended=true/\q'.ahead=false/\FinS p R x' q' se')):=by
 obtain⟨f',h1,h2,h3,h4⟩:=ht.out;have hinv:=(hw.inv.noneLeft p.cl).step hat hin hn;have hR:=hw.run;rw[runS,if_neg (by omega)]at hR;have hk:=hw.kg;refine⟨f',h1,h2,?_⟩;cases hq:(stepS p (s.noneLeft p.cl)).2.2 with
 | none=>
  rw[hq]at h4 hR;dsimp only at h4 hR;exact .inl ⟨_,k+1,⟨by omega,h4.1,h4.2,(hinv.after _).mono (Nat.le_refl _) (by omega),hR⟩,by rw[Jc2];exact h3⟩
 | some e=>
  rw[hq]at h4 hR;dsimp only at h4 hR;subst hR;refine .inr ⟨h4.1.ended,h4.1.ahead,h4.1.fin,h4.1.val,h4.1.steps,h4.2,fun j hj=>?_,h4.1.st,by rw[h4.2];have:=hinv.seen;omega⟩;rw[h4.1.ahead];simp only[Bool.false_eq_true,if_false];rw[h4.1.wd j hj];show _=(stepS p (s.noneLeft p.cl)).1.real.wd j;cases ha:(s.noneLeft p.cl).ahead with
  | true=>
   have:=(Jhr p _ ha).1;rw[hq]at this;cases this
  | false=>
   rw[Jjp hq];unfold Sp.real;rw[if_neg (by show¬(s.noneLeft p.cl).ahead=true;rw[ha];decide)]
   rfl
end
section
open Go.RowKit
set_option linter.unusedSimpArgs false
set_option linter.unusedVariables false
structure WdsS(m mm:Mem)(x:Ms):Prop where
 wd:∀c,c < m.ml->∀i,i < m.len c->x.wd (baseN m.len c+i)=mm.wd c i
 st:∀j,j<=m.ml->x.st j=(baseN m.len j:Int)
structure RelS(m:Mem)(fuel:Nat)(x:Ms)(s:St)(k:Nat):Prop where
 r:x.r=s.r
 w:WdsS m s.m x
 next:x.next=(s.at_:Int)
 fin:x.fin=0
 val:x.val=0
 steps:x.steps=(k:Int)
 fuel:x.fuel=(fuel:Int)
 ended:x.ended=false
structure Jol(m mm:Mem)(x:Ms)(f v t:Int):Prop where
 w:WdsS m mm x
 fin:x.fin=f
 val:x.val=v
 steps:x.steps=t
 ended:x.ended=true

theorem WdsS.set{m mm:Mem}{x:Ms}(h:WdsS m mm x)(c i:Nat)(hc:c < m.ml)(hi:i < m.len c)(v:Int)(x':Ms)(hx:x'.wd=setN x.wd (baseN m.len c+i) v)(hs:x'.st=x.st):WdsS m (setW mm c i v) x':=by
 refine⟨fun c' hc' i' hi'=>?_,fun j hj=>by rw[hs];exact h.st j hj⟩;rw[hx];unfold setN setW;dsimp only;by_cases e:baseN m.len c'+i'=baseN m.len c+i
 ·obtain⟨rfl,rfl⟩:=Jff m.len hi' hi e
  rw[if_pos rfl,if_pos ⟨rfl,rfl⟩]
 ·rw[if_neg e,if_neg (fun h=>e (by rw[h.1,h.2]))]
  exact h.wd c' hc' i' hi'

def After(m:Mem)(fuel:Nat)(x':Ms)(k:Nat)(q:St × Option (Int × Int)):Prop:=
 match q.2 with
 | none=>RelS m fuel x' q.1 k
 | some e=>Jol m q.1.m x' e.1 e.2 (k:Int)

theorem Jp9(p:Prg)(m:Mem)(fuel:Nat)(s:St)(k:Nat)(x:Ms)(w:World)(M:Nat)(rv cv:Value)(hin:InsOk p.rl p.log p.cl 10 (p.ins s.at_))(hrl:m.ml=p.rl)(hml:m.ml<=6)(hlen:∀i,i < m.ml->(m.len i:Int)=J0h (p.log i))(hpos:∀i,i < m.ml->0 < m.len i/\m.len i<=64)
  (hs2:∀j,s.m.len j=m.len j) (hl:s.seen.length<=100000) (hR:RelS m fuel x ⟨s.at_+1,s.r,s.m,s.seen++[⟨1,s.at_,0⟩]⟩ k) (h:Run w M rv cv x (s.seen++[⟨1,s.at_,0⟩])):
  Calls Tryz.prog 26 #[.pointer (some ⟨M,0,none⟩),.agg #[V (p.ins s.at_).op,V (p.ins s.at_).a,V (p.ins s.at_).b,V (p.ins s.at_).c,V (p.ins s.at_).n]] w fun e w'=>
   e=.returned (.tuple #[])/\Below M w w'/\∃x',Run w' M rv cv x' (stepI p s).1.seen/\After m fuel x' k (stepI p s):=by
 have hl':(s.seen++[(⟨1,s.at_,0⟩:Se)]).length<=200000:=by simp;omega
 have ok:∀{x2:Ms} {se2:List Se},(stepI p s).1.seen=se2->After m fuel x2 k (stepI p s)->∀(e:Ending) (w':World),(e=.returned (.tuple #[])/\Run w' M rv cv x2 se2/\Below M w w')->e=.returned (.tuple #[])/\Below M w w'/\∃x',Run w' M rv cv x' (stepI p s).1.seen/\After m fuel x' k (stepI p s):=by
  rintro x2 se2 hse ha e w' ⟨rfl,r2,b2⟩;exact⟨rfl,b2,x2,by rw[hse];exact r2,ha⟩
 have hr:=hR.r;dsimp only at hr;cases hI:p.ins s.at_ with
 | mk op a b c n=>
 rw[hI]at hin;dsimp only
 have word:∀(hop:op=3\/op=4\/op=5\/op=6),0<=a/\a < 10/\0<=b/\b < 10/\0<=c/\c < p.rl:=by
  intro hop;unfold InsOk Reg Rgn at hin;dsimp only at hin;rcases hop with rfl | rfl | rfl | rfl<;>simp at hin<;>omega
 have bse:∀(hop:op=3\/op=4\/op=5\/op=6),x.st c.toNat=(baseN m.len c.toNat:Int)/\x.st (c.toNat+1)=(baseN m.len c.toNat:Int)+(m.len c.toNat:Int)/\baseN m.len c.toNat+m.len c.toNat<=384/\c.toNat < m.ml/\c < 6:=by
  intro hop;have:=word hop;have hc:c.toNat < m.ml:=by omega
  have h1:=hR.w.st c.toNat (by omega);have h2:=hR.w.st (c.toNat+1) (by omega);have h3:=J66 m.len (c.toNat+1) (fun j hj=>(hpos j (by omega)).2);simp only[baseN]at h2 h3;refine⟨h1,by rw[h2];push_cast;rfl,by omega,hc,by omega⟩
 by_cases h1:op=1
 ·subst h1
  have ha:0<=a/\a < 10:=by unfold InsOk Reg at hin;simp at hin;exact hin.1
  have e:stepI p s=(⟨s.at_+1,setR s.r a n,s.m,s.seen++[⟨1,s.at_,0⟩]⟩,none):=by simp[stepI,hI,putI,regsI]
  exact(do_1 a b c n w M rv cv x _ h ha.1 ha.2).mono (ok (by rw[e]) (by rw[e];exact⟨by rw[hr],⟨hR.w.wd,hR.w.st⟩,hR.next,hR.fin,hR.val,hR.steps,hR.fuel,hR.ended⟩))
 by_cases h2:op=2
 ·subst h2
  have ha:(0<=a/\a < 10)/\(0<=b/\b < 10):=by unfold InsOk Reg at hin;simp at hin;exact⟨hin.1,hin.2.1⟩
  have e:stepI p s=(⟨s.at_+1,setR s.r a (s.r b.toNat),s.m,s.seen++[⟨1,s.at_,0⟩]⟩,none):=by simp[stepI,hI,putI,regsI]
  exact(do_2 a b c n w M rv cv x _ h ha.1.1 ha.1.2 ha.2.1 ha.2.2).mono (ok (by rw[e]) (by rw[e];exact⟨by rw[hr],⟨hR.w.wd,hR.w.st⟩,hR.next,hR.fin,hR.val,hR.steps,hR.fuel,hR.ended⟩))
 by_cases h10:op=10
 ·subst h10
  have ha:(0<=a/\a < 10)/\(0<=b/\b < 10):=by unfold InsOk Reg at hin;simp at hin;exact⟨hin.1,hin.2.1⟩
  have e:stepI p s=(⟨s.at_+1,setR s.r a (wrap64 (s.r b.toNat+n)),s.m,s.seen++[⟨1,s.at_,0⟩]⟩,none):=by simp[stepI,hI,putI,regsI]
  exact(do_10 a b c n w M rv cv x _ h ha.1.1 ha.1.2 ha.2.1 ha.2.2).mono (ok (by rw[e]) (by rw[e];exact⟨by rw[hr],⟨hR.w.wd,hR.w.st⟩,hR.next,hR.fin,hR.val,hR.steps,hR.fuel,hR.ended⟩))
 by_cases h12:op=12
 ·subst h12
  have ha:a=0:=by unfold InsOk at hin;simp at hin;exact hin.1
  have e:stepI p s=(⟨s.at_+1,s.r,s.m,s.seen++[⟨1,s.at_,0⟩]⟩,none):=by simp[stepI,hI,putI,regsI]
  exact(do_12 a b c n w M rv cv x _ h (by omega) (by omega)).mono (ok (by rw[e]) (by rw[e];exact⟨hr,⟨hR.w.wd,hR.w.st⟩,hR.next,hR.fin,hR.val,hR.steps,hR.fuel,hR.ended⟩))
 by_cases h7:op=7
 ·subst h7
  have ha:a=0/\0<=n:=by unfold InsOk Plc at hin;simp at hin;exact⟨hin.1,hin.2.2.2.1⟩
  have e:stepI p s=(⟨n.toNat,s.r,s.m,s.seen++[⟨1,s.at_,0⟩]⟩,none):=by simp[stepI,hI]
  exact(do_7 a b c n w M rv cv x _ h (by omega) (by omega)).mono (ok (by rw[e]) (by rw[e];exact⟨hr,⟨hR.w.wd,hR.w.st⟩,(show n=((n.toNat:Nat):Int) by omega),hR.fin,hR.val,hR.steps,hR.fuel,hR.ended⟩))
 by_cases h8:op=8
 ·subst h8
  have ha:(0<=a/\a < 10)/\(0<=b/\b < 10)/\0<=n:=by unfold InsOk Reg Plc at hin;simp at hin;exact⟨hin.1,hin.2.1,hin.2.2.2.1⟩
  cases hh:J1n c (s.r a.toNat) (s.r b.toNat) with
  | true=>
   have e:stepI p s=(⟨n.toNat,s.r,s.m,s.seen++[⟨1,s.at_,0⟩]⟩,none):=by simp[stepI,hI,hh]
   exact(do_8y a b c n w M rv cv x _ h ha.1.1 ha.1.2 ha.2.1.1 ha.2.1.2 (by rw[hr];exact hh)).mono (ok (by rw[e]) (by rw[e];exact⟨hr,⟨hR.w.wd,hR.w.st⟩,(show n=((n.toNat:Nat):Int) by omega),hR.fin,hR.val,hR.steps,hR.fuel,hR.ended⟩))
  | false=>
   have e:stepI p s=(⟨s.at_+1,s.r,s.m,s.seen++[⟨1,s.at_,0⟩]⟩,none):=by simp[stepI,hI,hh]
   exact(do_8n a b c n w M rv cv x _ h ha.1.1 ha.1.2 ha.2.1.1 ha.2.1.2 (by rw[hr];exact hh)).mono (ok (by rw[e]) (by rw[e];exact⟨hr,⟨hR.w.wd,hR.w.st⟩,hR.next,hR.fin,hR.val,hR.steps,hR.fuel,hR.ended⟩))
 by_cases h9:op=9
 ·subst h9
  have ha:0<=a/\a < 10:=by unfold InsOk Reg at hin;simp at hin;exact hin.1
  have e:stepI p s=(⟨s.at_+1,s.r,s.m,s.seen++[⟨1,s.at_,0⟩]⟩,some (1,s.r a.toNat)):=by simp[stepI,hI]
  exact(do_9 a b c n w M rv cv x _ h ha.1 ha.2).mono (ok (by rw[e]) (by rw[e];exact⟨⟨hR.w.wd,hR.w.st⟩,rfl,by rw[hr],hR.steps,rfl⟩))
 by_cases h11:op=11
 ·subst h11
  have ha:0<=a/\a < 10:=by unfold InsOk Reg at hin;simp at hin;exact hin.1
  by_cases lo:s.r a.toNat < 0
  ·have e:stepI p s=(⟨s.at_+1,setR s.r a 0,s.m,s.seen++[⟨1,s.at_,0⟩]⟩,none):=by simp[stepI,hI,putI,regsI,lo]
   exact(Jia a b c n _ w M rv cv x _ h ha.1 ha.2 rfl (by rw[hr];exact lo)).mono (ok (by rw[e]) (by rw[e];exact⟨by rw[hr],⟨hR.w.wd,hR.w.st⟩,hR.next,hR.fin,hR.val,hR.steps,hR.fuel,hR.ended⟩))
  ·by_cases hi:n<=s.r a.toNat
   ·have e:stepI p s=(⟨s.at_+1,setR s.r a 0,s.m,s.seen++[⟨1,s.at_,0⟩]⟩,none):=by simp[stepI,hI,putI,regsI,hi]
    exact(Ji8 a b c n _ w M rv cv x _ h ha.1 ha.2 rfl (by rw[hr];exact lo) (by rw[hr];exact hi)).mono (ok (by rw[e]) (by rw[e];exact⟨by rw[hr],⟨hR.w.wd,hR.w.st⟩,hR.next,hR.fin,hR.val,hR.steps,hR.fuel,hR.ended⟩))
   ·have e:stepI p s=(⟨s.at_+1,s.r,s.m,s.seen++[⟨1,s.at_,0⟩]⟩,none):=by simp[stepI,hI,putI,regsI,lo,hi]
    exact(Ji9 a b c n _ w M rv cv x _ h ha.1 ha.2 rfl (by rw[hr];exact lo) (by rw[hr];omega)).mono (ok (by rw[e]) (by rw[e];exact⟨hr,⟨hR.w.wd,hR.w.st⟩,hR.next,hR.fin,hR.val,hR.steps,hR.fuel,hR.ended⟩))
 by_cases h3:op=3
 ·subst h3
  have hw:=word (by omega);have hbs:=bse (by omega);have hb3:=J3k p m hlen c.toNat (by omega);have hli:=hs2 c.toNat;by_cases hx:0<=idxI s.r ⟨3,a,b,c,n⟩/\idxI s.r ⟨3,a,b,c,n⟩ < (m.len c.toNat:Int)
  ·have e:stepI p s=(⟨s.at_+1,setR s.r a (s.m.wd c.toNat (idxI s.r ⟨3,a,b,c,n⟩).toNat),s.m,s.seen++[⟨1,s.at_,0⟩]++[⟨2,baseI p.log c.toNat+idxI s.r ⟨3,a,b,c,n⟩,0⟩]⟩,none):=by
    have g1:¬(idxI s.r ⟨3,a,b,c,n⟩ < 0\/(s.m.len c.toNat:Int)<=idxI s.r ⟨3,a,b,c,n⟩):=by rw[hli];omega
    unfold stepI;rw[hI];dsimp only;rw[if_neg (by decide),if_neg (by decide),if_neg (by decide),if_pos (by simp[putI]),if_neg g1];simp[putI]
   have hk2:((baseN m.len c.toNat:Int)+idxI s.r ⟨3,a,b,c,n⟩).toNat=baseN m.len c.toNat+(idxI s.r ⟨3,a,b,c,n⟩).toNat:=by omega
   have hse:x.st c.toNat+idxI x.r ⟨3,a,b,c,n⟩=(baseN m.len c.toNat:Int)+idxI s.r ⟨3,a,b,c,n⟩:=by rw[hbs.1,hr]
   refine(Jgf a b c n ((baseN m.len c.toNat:Int)+idxI s.r ⟨3,a,b,c,n⟩) w M rv cv x _ h hw.1 hw.2.1 _ (by omega) (by omega) (fun w1 m1=>?_)).mono (ok (se2:=s.seen++[⟨1,s.at_,0⟩]++[⟨2,(baseN m.len c.toNat:Int)+idxI s.r ⟨3,a,b,c,n⟩,0⟩]) (by rw[e,hb3]) (by rw[e];exact⟨by rw[hr,hk2];exact congrArg (setR s.r a) (hR.w.wd c.toNat hbs.2.2.2.1 _ (by omega)),⟨hR.w.wd,hR.w.st⟩,hR.next,hR.fin,hR.val,hR.steps,hR.fuel,hR.ended⟩));have hq:=J2e ⟨3,a,b,c,n⟩ 0 w1 M rv cv x _ (h.more m1) hl' (by simp) hw.2.2.1 hw.2.2.2.1 hw.2.2.2.2.1 hbs.2.2.2.2 (by dsimp only;omega) (by dsimp only;omega) (by dsimp only;omega) (by dsimp only;rw[hr,hbs.1,hbs.2.1];omega);dsimp only at hq;rw[hse]at hq;exact hq
  ·have e:stepI p s=(⟨s.at_+1,s.r,s.m,s.seen++[⟨1,s.at_,0⟩]⟩,some (2,0)):=by
    have g1:idxI s.r ⟨3,a,b,c,n⟩ < 0\/(s.m.len c.toNat:Int)<=idxI s.r ⟨3,a,b,c,n⟩:=by rw[hli];omega
    unfold stepI;rw[hI];dsimp only;rw[if_neg (by decide),if_neg (by decide),if_neg (by decide),if_pos (by simp[putI]),if_pos g1]
   refine(Jke a b c n w M rv cv x _ h hw.1 hw.2.1 { x with fin:=2,ended:=true } (fun w1 m1=>?_)).mono (ok (by rw[e]) (by rw[e];exact⟨⟨hR.w.wd,hR.w.st⟩,rfl,hR.val,hR.steps,rfl⟩));exact J2z ⟨3,a,b,c,n⟩ 0 w1 M rv cv x _ (h.more m1) (by simp) hw.2.2.1 hw.2.2.2.1 hw.2.2.2.2.1 hbs.2.2.2.2 (by dsimp only;omega) (by dsimp only;omega) (by dsimp only;omega) (by dsimp only;rw[hr,hbs.1,hbs.2.1];omega)
 by_cases h5:op=5
 ·subst h5
  have hw:=word (by omega);have hbs:=bse (by omega);have hb3:=J3k p m hlen c.toNat (by omega);have hli:=hs2 c.toNat;by_cases hx:0<=idxI s.r ⟨5,a,b,c,n⟩/\idxI s.r ⟨5,a,b,c,n⟩ < (m.len c.toNat:Int)
  ·have e:stepI p s=(⟨s.at_+1,setR s.r a (s.m.wd c.toNat (idxI s.r ⟨5,a,b,c,n⟩).toNat),s.m,s.seen++[⟨1,s.at_,0⟩]++[⟨2,baseI p.log c.toNat+idxI s.r ⟨5,a,b,c,n⟩,0⟩]⟩,none):=by
    have g1:¬(idxI s.r ⟨5,a,b,c,n⟩ < 0\/(s.m.len c.toNat:Int)<=idxI s.r ⟨5,a,b,c,n⟩):=by rw[hli];omega
    unfold stepI;rw[hI];dsimp only;rw[if_neg (by decide),if_neg (by decide),if_neg (by decide),if_pos (by simp[putI]),if_neg g1];simp[putI]
   have hk2:((baseN m.len c.toNat:Int)+idxI s.r ⟨5,a,b,c,n⟩).toNat=baseN m.len c.toNat+(idxI s.r ⟨5,a,b,c,n⟩).toNat:=by omega
   have hse:x.st c.toNat+idxI x.r ⟨5,a,b,c,n⟩=(baseN m.len c.toNat:Int)+idxI s.r ⟨5,a,b,c,n⟩:=by rw[hbs.1,hr]
   refine(Jgh a b c n ((baseN m.len c.toNat:Int)+idxI s.r ⟨5,a,b,c,n⟩) w M rv cv x _ h hw.1 hw.2.1 _ (by omega) (by omega) (fun w1 m1=>?_)).mono (ok (se2:=s.seen++[⟨1,s.at_,0⟩]++[⟨2,(baseN m.len c.toNat:Int)+idxI s.r ⟨5,a,b,c,n⟩,0⟩]) (by rw[e,hb3]) (by rw[e];exact⟨by rw[hr,hk2];exact congrArg (setR s.r a) (hR.w.wd c.toNat hbs.2.2.2.1 _ (by omega)),⟨hR.w.wd,hR.w.st⟩,hR.next,hR.fin,hR.val,hR.steps,hR.fuel,hR.ended⟩));have hq:=J2e ⟨5,a,b,c,n⟩ 0 w1 M rv cv x _ (h.more m1) hl' (by simp) hw.2.2.1 hw.2.2.2.1 hw.2.2.2.2.1 hbs.2.2.2.2 (by dsimp only;omega) (by dsimp only;omega) (by dsimp only;omega) (by dsimp only;rw[hr,hbs.1,hbs.2.1];omega);dsimp only at hq;rw[hse]at hq;exact hq
  ·have e:stepI p s=(⟨s.at_+1,s.r,s.m,s.seen++[⟨1,s.at_,0⟩]⟩,some (2,0)):=by
    have g1:idxI s.r ⟨5,a,b,c,n⟩ < 0\/(s.m.len c.toNat:Int)<=idxI s.r ⟨5,a,b,c,n⟩:=by rw[hli];omega
    unfold stepI;rw[hI];dsimp only;rw[if_neg (by decide),if_neg (by decide),if_neg (by decide),if_pos (by simp[putI]),if_pos g1]
   refine(Jkg a b c n w M rv cv x _ h hw.1 hw.2.1 { x with fin:=2,ended:=true } (fun w1 m1=>?_)).mono (ok (by rw[e]) (by rw[e];exact⟨⟨hR.w.wd,hR.w.st⟩,rfl,hR.val,hR.steps,rfl⟩));exact J2z ⟨5,a,b,c,n⟩ 0 w1 M rv cv x _ (h.more m1) (by simp) hw.2.2.1 hw.2.2.2.1 hw.2.2.2.2.1 hbs.2.2.2.2 (by dsimp only;omega) (by dsimp only;omega) (by dsimp only;omega) (by dsimp only;rw[hr,hbs.1,hbs.2.1];omega)
 by_cases h4:op=4
 ·subst h4
  have hw:=word (by omega);have hbs:=bse (by omega);have hb3:=J3k p m hlen c.toNat (by omega);have hli:=hs2 c.toNat;by_cases hx:0<=idxI s.r ⟨4,a,b,c,n⟩/\idxI s.r ⟨4,a,b,c,n⟩ < (m.len c.toNat:Int)
  ·have e:stepI p s=(⟨s.at_+1,s.r,setW s.m c.toNat (idxI s.r ⟨4,a,b,c,n⟩).toNat (s.r a.toNat),s.seen++[⟨1,s.at_,0⟩]++[⟨2,baseI p.log c.toNat+idxI s.r ⟨4,a,b,c,n⟩,1⟩]⟩,none):=by
    have g1:¬(idxI s.r ⟨4,a,b,c,n⟩ < 0\/(s.m.len c.toNat:Int)<=idxI s.r ⟨4,a,b,c,n⟩):=by rw[hli];omega
    unfold stepI;rw[hI];dsimp only;rw[if_neg (by decide),if_neg (by decide),if_neg (by decide),if_pos (by simp[putI]),if_neg g1];simp[putI]
   have hk2:((baseN m.len c.toNat:Int)+idxI s.r ⟨4,a,b,c,n⟩).toNat=baseN m.len c.toNat+(idxI s.r ⟨4,a,b,c,n⟩).toNat:=by omega
   have hse:x.st c.toNat+idxI x.r ⟨4,a,b,c,n⟩=(baseN m.len c.toNat:Int)+idxI s.r ⟨4,a,b,c,n⟩:=by rw[hbs.1,hr]
   refine(Jgg a b c n ((baseN m.len c.toNat:Int)+idxI s.r ⟨4,a,b,c,n⟩) w M rv cv x _ h hw.1 hw.2.1 _ (by omega) (by omega) (fun w1 m1=>?_)).mono (ok (se2:=s.seen++[⟨1,s.at_,0⟩]++[⟨2,(baseN m.len c.toNat:Int)+idxI s.r ⟨4,a,b,c,n⟩,1⟩]) (by rw[e,hb3]) (by rw[e];exact⟨hr,hR.w.set c.toNat (idxI s.r ⟨4,a,b,c,n⟩).toNat hbs.2.2.2.1 (by omega) (s.r a.toNat) _ (by rw[hk2,hr]) rfl,hR.next,hR.fin,hR.val,hR.steps,hR.fuel,hR.ended⟩));have hq:=J2e ⟨4,a,b,c,n⟩ 1 w1 M rv cv x _ (h.more m1) hl' (by simp) hw.2.2.1 hw.2.2.2.1 hw.2.2.2.2.1 hbs.2.2.2.2 (by dsimp only;omega) (by dsimp only;omega) (by dsimp only;omega) (by dsimp only;rw[hr,hbs.1,hbs.2.1];omega);dsimp only at hq;rw[hse]at hq;exact hq
  ·have e:stepI p s=(⟨s.at_+1,s.r,s.m,s.seen++[⟨1,s.at_,0⟩]⟩,some (2,0)):=by
    have g1:idxI s.r ⟨4,a,b,c,n⟩ < 0\/(s.m.len c.toNat:Int)<=idxI s.r ⟨4,a,b,c,n⟩:=by rw[hli];omega
    unfold stepI;rw[hI];dsimp only;rw[if_neg (by decide),if_neg (by decide),if_neg (by decide),if_pos (by simp[putI]),if_pos g1]
   refine(Jkf a b c n w M rv cv x _ h hw.1 hw.2.1 { x with fin:=2,ended:=true } (fun w1 m1=>?_)).mono (ok (by rw[e]) (by rw[e];exact⟨⟨hR.w.wd,hR.w.st⟩,rfl,hR.val,hR.steps,rfl⟩));exact J2z ⟨4,a,b,c,n⟩ 1 w1 M rv cv x _ (h.more m1) (by simp) hw.2.2.1 hw.2.2.2.1 hw.2.2.2.2.1 hbs.2.2.2.2 (by dsimp only;omega) (by dsimp only;omega) (by dsimp only;omega) (by dsimp only;rw[hr,hbs.1,hbs.2.1];omega)
 by_cases h6:op=6
 ·subst h6
  have hw:=word (by omega);have hbs:=bse (by omega);have hb3:=J3k p m hlen c.toNat (by omega);have hli:=hs2 c.toNat;by_cases hx:0<=idxI s.r ⟨6,a,b,c,n⟩/\idxI s.r ⟨6,a,b,c,n⟩ < (m.len c.toNat:Int)
  ·have e:stepI p s=(⟨s.at_+1,s.r,setW s.m c.toNat (idxI s.r ⟨6,a,b,c,n⟩).toNat (s.r a.toNat),s.seen++[⟨1,s.at_,0⟩]++[⟨2,baseI p.log c.toNat+idxI s.r ⟨6,a,b,c,n⟩,1⟩]⟩,none):=by
    have g1:¬(idxI s.r ⟨6,a,b,c,n⟩ < 0\/(s.m.len c.toNat:Int)<=idxI s.r ⟨6,a,b,c,n⟩):=by rw[hli];omega
    unfold stepI;rw[hI];dsimp only;rw[if_neg (by decide),if_neg (by decide),if_neg (by decide),if_pos (by simp[putI]),if_neg g1];simp[putI]
   have hk2:((baseN m.len c.toNat:Int)+idxI s.r ⟨6,a,b,c,n⟩).toNat=baseN m.len c.toNat+(idxI s.r ⟨6,a,b,c,n⟩).toNat:=by omega
   have hse:x.st c.toNat+idxI x.r ⟨6,a,b,c,n⟩=(baseN m.len c.toNat:Int)+idxI s.r ⟨6,a,b,c,n⟩:=by rw[hbs.1,hr]
   refine(Jgi a b c n ((baseN m.len c.toNat:Int)+idxI s.r ⟨6,a,b,c,n⟩) w M rv cv x _ h hw.1 hw.2.1 _ (by omega) (by omega) (fun w1 m1=>?_)).mono (ok (se2:=s.seen++[⟨1,s.at_,0⟩]++[⟨2,(baseN m.len c.toNat:Int)+idxI s.r ⟨6,a,b,c,n⟩,1⟩]) (by rw[e,hb3]) (by rw[e];exact⟨hr,hR.w.set c.toNat (idxI s.r ⟨6,a,b,c,n⟩).toNat hbs.2.2.2.1 (by omega) (s.r a.toNat) _ (by rw[hk2,hr]) rfl,hR.next,hR.fin,hR.val,hR.steps,hR.fuel,hR.ended⟩));have hq:=J2e ⟨6,a,b,c,n⟩ 1 w1 M rv cv x _ (h.more m1) hl' (by simp) hw.2.2.1 hw.2.2.2.1 hw.2.2.2.2.1 hbs.2.2.2.2 (by dsimp only;omega) (by dsimp only;omega) (by dsimp only;omega) (by dsimp only;rw[hr,hbs.1,hbs.2.1];omega);dsimp only at hq;rw[hse]at hq;exact hq
  ·have e:stepI p s=(⟨s.at_+1,s.r,s.m,s.seen++[⟨1,s.at_,0⟩]⟩,some (2,0)):=by
    have g1:idxI s.r ⟨6,a,b,c,n⟩ < 0\/(s.m.len c.toNat:Int)<=idxI s.r ⟨6,a,b,c,n⟩:=by rw[hli];omega
    unfold stepI;rw[hI];dsimp only;rw[if_neg (by decide),if_neg (by decide),if_neg (by decide),if_pos (by simp[putI]),if_pos g1]
   refine(Jkh a b c n w M rv cv x _ h hw.1 hw.2.1 { x with fin:=2,ended:=true } (fun w1 m1=>?_)).mono (ok (by rw[e]) (by rw[e];exact⟨⟨hR.w.wd,hR.w.st⟩,rfl,hR.val,hR.steps,rfl⟩));exact J2z ⟨6,a,b,c,n⟩ 1 w1 M rv cv x _ (h.more m1) (by simp) hw.2.2.1 hw.2.2.2.1 hw.2.2.2.2.1 hbs.2.2.2.2 (by dsimp only;omega) (by dsimp only;omega) (by dsimp only;omega) (by dsimp only;rw[hr,hbs.1,hbs.2.1];omega)
 have ho:(21<=op/\op<=30)/\(0<=a/\a < 10)/\(0<=b/\b < 10)/\(0<=c/\c < 10):=by
  unfold InsOk Reg at hin;dsimp only at hin;rw[if_neg h1,if_neg h2,if_neg h3,if_neg h4,if_neg h5,if_neg h6,if_neg h7,if_neg h8,if_neg h9,if_neg h10,if_neg h11,if_neg h12]at hin;exact⟨hin.1,hin.2.1,hin.2.2.1,hin.2.2.2.1⟩
 have hput:putI ⟨op,a,b,c,n⟩ = -1:=by unfold putI;dsimp only;rw[if_neg (by omega),if_neg (by omega)]
 have e0:stepI p s=(⟨s.at_+1,(regsI s.r ⟨op,a,b,c,n⟩).1,s.m,s.seen++[⟨1,s.at_,0⟩]++(regsI s.r ⟨op,a,b,c,n⟩).2⟩,none):=by
  unfold stepI;rw[hI];dsimp only;rw[if_neg h7,if_neg h8,if_neg h9,hput,if_neg (by decide)]
 have er:regsI s.r ⟨op,a,b,c,n⟩=(setR s.r a (opI (op - 20) (s.r b.toNat) (s.r c.toNat)),if op=29\/op=30 then[⟨3,s.r b.toNat,s.r c.toNat⟩] else[]):=by
  unfold regsI;dsimp only;rw[if_neg h1,if_neg h2,if_neg h10,if_neg h11,if_neg h12]
 rw[er]at e0
 have haf:After m fuel { x with r:=setR x.r a (opI (op - 20) (x.r b.toNat) (x.r c.toNat))} k (stepI p s):=by
  rw[e0];exact⟨by dsimp only;rw[hr],⟨hR.w.wd,hR.w.st⟩,hR.next,hR.fin,hR.val,hR.steps,hR.fuel,hR.ended⟩
 by_cases h29:op=29
 ·subst h29
  refine(do_op 29 a b c n w M rv cv x _ h ho.2.1.1 ho.2.1.2 _ _ (by omega) (fun w1 m1=>J5g a b c n w1 M rv cv x _ (h.more m1) hl' ho.2.1.1 ho.2.1.2 ho.2.2.1.1 ho.2.2.1.2 ho.2.2.2.1 ho.2.2.2.2)).mono (ok (by rw[e0,hr];simp) haf)
 by_cases h30:op=30
 ·subst h30
  refine(do_op 30 a b c n w M rv cv x _ h ho.2.1.1 ho.2.1.2 _ _ (by omega) (fun w1 m1=>J5h a b c n w1 M rv cv x _ (h.more m1) hl' ho.2.1.1 ho.2.1.2 ho.2.2.1.1 ho.2.2.1.2 ho.2.2.2.1 ho.2.2.2.2)).mono (ok (by rw[e0,hr];simp) haf)
 refine(do_op op a b c n w M rv cv x _ h ho.2.1.1 ho.2.1.2 _ _ ho.1.1 (fun w1 m1=>J5i op a b c n w1 M rv cv x _ (h.more m1) ho.1.1 ho.1.2 h29 h30 ho.2.1.1 ho.2.1.2 ho.2.2.1.1 ho.2.2.1.2 ho.2.2.2.1 ho.2.2.2.2)).mono (ok (by rw[e0];simp[h29,h30]) haf)
end
section
open Go.RowKit
set_option linter.unusedSimpArgs false
set_option linter.unusedVariables false
set_option maxRecDepth 8000
structure Fin_(m:Mem)(R:Sh)(x:Ms)(se:List Se):Prop where
 fin:x.fin=R.fin
 val:x.val=R.val
 steps:x.steps=R.steps
 seen:se=R.seen
 w:WdsS m R.mem x
 ml:R.mem.ml=m.ml
 len:∀j,R.mem.len j=m.len j
 short:se.length<=100000

structure Way(p:Prg)(m:Mem)(fuel g:Nat)(R:Sh)(x:Ms)(se:List Se)(k:Nat)(s:St):Prop where
 kg:k+g=fuel
 rel:RelS m fuel x s k
 seen:se=s.seen
 inv:Inv p m k s
 run:runI p g k s=R

theorem RelS.shorter{m:Mem}{fuel:Nat}{x:Ms}{s:St}{k:Nat}(h:RelS m fuel x s k)(f v:Int)(mm:Mem)(e:mm=s.m):WdsS m mm { x with fin:=f,ended:=true }:=by subst e;exact⟨h.w.wd,h.w.st⟩

theorem Jgn(p:Prg)(m:Mem)(fuel g:Nat)(R:Sh)(w:World)(M:Nat)(rv:Value)(ca:Option Addr)(cc:Nat)(x:Ms)(se:List Se)(hf:fuel<=40000)(h:Run w M rv (.slice ca p.cl cc) x se)(hw:(∃k s,Way p m fuel g R x se k s)\/(x.ended=true/\Fin_ m R x se)):
  Calls Tryz.prog 25 #[.pointer (some ⟨M,0,none⟩)] w fun e w'=>Below M w w'/\∃(b:Bool) (x':Ms),e=.returned (.bool b)/\Run w' M rv (.slice ca p.cl cc) x' se/\((b=false/\Fin_ m R x' se)\/(b=true/\∃g' k s,g=g'+1/\Way p m fuel g R x' se k s/\s.at_ < p.cl)):=by
 rcases hw with⟨k,s,hw⟩ | ⟨he,hfin⟩
 ·have hsh:se.length<=100000:=by have:=hw.inv.seen;have:=hw.kg;rw[hw.seen];omega
  cases g with
  | zero=>
   have hk:=hw.kg;refine(J4u w M rv _ x se h hw.rel.ended (by rw[hw.rel.steps,hw.rel.fuel];omega)).mono ?_;rintro e w' ⟨rfl,r2,b2⟩;have hR:=hw.run;rw[runI]at hR;subst hR;exact⟨b2,false,_,rfl,r2,.inl ⟨rfl,rfl,hw.rel.val,by dsimp only;rw[hw.rel.steps],hw.seen,hw.rel.shorter _ 0 _ rfl,hw.inv.ml,hw.inv.len,hsh⟩⟩
  | succ g'=>
   have hk:=hw.kg;by_cases hat:s.at_ < p.cl
   ·refine(J6h w M rv ca p.cl cc x se h hw.rel.ended (by rw[hw.rel.steps,hw.rel.fuel];omega) (by rw[hw.rel.next];omega)).mono ?_
    rintro e w' ⟨rfl,r2,b2⟩;exact⟨b2,true,x,rfl,r2,.inr ⟨rfl,g',k,s,rfl,hw,hat⟩⟩
   ·refine(J4v w M rv ca p.cl cc x se h hw.rel.ended (by rw[hw.rel.steps,hw.rel.fuel];omega) (by rw[hw.rel.next];omega)).mono ?_
    rintro e w' ⟨rfl,r2,b2⟩;have hR:=hw.run;rw[runI,if_pos (by omega)]at hR;subst hR;exact⟨b2,false,_,rfl,r2,.inl ⟨rfl,rfl,hw.rel.val,by dsimp only;rw[hw.rel.steps],hw.seen,hw.rel.shorter _ 0 _ rfl,hw.inv.ml,hw.inv.len,hsh⟩⟩
 ·refine(J4w w M rv _ x se h he).mono ?_
  rintro e w' ⟨rfl,r2,b2⟩;exact⟨b2,false,x,rfl,r2,.inl ⟨rfl,hfin⟩⟩

theorem Jm9{p:Prg}{m:Mem}{fuel g':Nat}{R:Sh}{x x':Ms}{se:List Se}{k:Nat}{s:St}(hw:Way p m fuel (g'+1) R x se k s)(hat:s.at_ < p.cl)(hin:InsOk p.rl p.log p.cl 10 (p.ins s.at_))(hn:B64 (p.ins s.at_).n)(hrl:m.ml=p.rl)(hf:fuel<=40000)
  (ha:After m fuel x' (k+1) (stepI p s)):(∃k s',Way p m fuel g' R x' (stepI p s).1.seen k s')\/(x'.ended=true/\Fin_ m R x' (stepI p s).1.seen):=by
 have hi:=Jga hw.inv hat hin hn hrl;have hR:=hw.run;rw[runI,if_neg (by omega)]at hR;have hk:=hw.kg;have hs:=hi.seen;unfold After at ha;cases hq:(stepI p s).2 with
 | none=>
  rw[hq]at ha hR;exact .inl ⟨k+1,_,by omega,ha,rfl,hi,hR⟩
 | some e=>
  rw[hq]at ha hR;dsimp only at hR ha;subst hR;refine .inr ⟨ha.ended,ha.fin,ha.val,by rw[ha.steps];push_cast;rfl,rfl,ha.w,hi.ml,hi.len,by omega⟩
theorem J3u(p:Prg)(l:Loc)(w:World)(h:PIn w p l):
  Calls Tryz.prog 38 #[.agg #[.slice l.ra p.rl l.rc,.slice l.ca p.cl l.cc]] w (Says (p.Ok 8000 10) w):=by
 have H:Hid (PIn w p l):=h;clear h;go_enter Tryz.func38,Tryz.ntmps38;go_wp2_with (fail)
 have m0:More w (w.alloc (.cells #[.slice l.ra p.rl l.rc,.slice l.ca p.cl l.cc] 28)):=(More.refl _).alloc _ _;refine(J65 l.ra p.rl l.rc l.ca p.cl l.cc 8000 10 l.rb l.ro l.cb l.co p.log p.sec p.ins _ 8000 rfl (by omega) H.out.hr (H.out.regs.more m0) H.out.hc (H.out.code.more m0)).mono ?_;rintro e w1 ⟨r,rfl,h1,m1⟩;have H1:Hid ((r=true↔p.Ok 8000 10)/\More w w1):=⟨h1,m0.trans m1⟩;clear h1 m1 m0;go_wp2;go_ret;exact⟨r,rfl,H1.out.1,H1.out.2⟩
theorem J1q(w:World)(a b:Obj):((w.alloc a).alloc b).heap[w.heap.size+1]?=some b:=by
 have:=heap_alloc_last (w.alloc a) b
 rwa [show(w.alloc a).heap.size=w.heap.size+1 from by simp]at this
theorem size_alloc2(w:World)(a b:Obj):w.heap.size+1 < ((w.alloc a).alloc b).heap.size:=by simp

theorem zrow:∃z:Array Value,(∀w,(zeroValue 84).run Tryz.prog w=.ok (.agg z) w)/\(∀w,(Instr.build 84 #[]).run Tryz.prog w=.ok (.agg z) w)/\MC z (.slice none 0 0) (.slice none 0 0) (ms0 0)/\(Tryz.prog.info? 84).map (·.size)=some 411:=by
 obtain⟨h1,h2⟩:=zero_of_info Jow;exact⟨_,h1,fun w=>run_build w 84 #[] _ (by simpa using Jc7),Jm0 _ _ (ms0 0),h2⟩

theorem J7o(p:Prg)(l:Loc)(ma:Option Addr)(ml mc mb mo:Nat)(A:Nat->Option Addr)(L C:Nat->Nat)(fuel:Int)(w:World)(h:PIn w p l)(hma:0 < ml->ma=some ⟨mb,mo,none⟩)(hm:ListsAt w mb mo ml A L C)(hbad:¬(p.Ok 8000 10/\J2r p.rl p.log ml L)):
  Calls Tryz.prog 24 #[.agg #[.slice l.ra p.rl l.rc,.slice l.ca p.cl l.cc],.slice ma ml mc,V fuel] w fun e w'=>∃z,MC z (.slice none 0 0) (.slice none 0 0) (ms0 0)/\e=.returned (.tuple #[.agg z,V 2])/\More w w':=by
 obtain⟨z,z1,z2,z3,z4⟩:=zrow;have H:Hid (PIn w p l/\(0 < ml->ma=some ⟨mb,mo,none⟩)/\ListsAt w mb mo ml A L C/\¬(p.Ok 8000 10/\J2r p.rl p.log ml L)):=⟨h,hma,hm,hbad⟩;have Hz:Hid (MC z (.slice none 0 0) (.slice none 0 0) (ms0 0)/\(Tryz.prog.info? 84).map (·.size)=some 411/\z.size=411):=⟨z3,z4,z3.size rfl⟩;obtain⟨P,hP⟩:∃P,P=fun(e:Ending) (w':World)=>∃z,MC z (.slice none 0 0) (.slice none 0 0) (ms0 0)/\e=.returned (.tuple #[.agg z,V 2])/\More w w':=⟨_,rfl⟩
 rw[<-hP];have HP:Hid (P=fun(e:Ending) (w':World)=>∃z,MC z (.slice none 0 0) (.slice none 0 0) (ms0 0)/\e=.returned (.tuple #[.agg z,V 2])/\More w w'):=hP;clear h hma hm z3 z4 hP hbad;go_enter Tryz.func24,Tryz.ntmps24;go_wp2_with (fail)
 refine(J3u p l _ (H.out.1.more (((More.refl _).alloc _ _).alloc _ _))).mono ?_;rintro e w1 ⟨r1,rfl,h1,m1⟩;have hrow:w1.heap[w.heap.size+1]?=some (.cells z 84 (0,0)):=by rw[m1.block (w.heap.size+1) (size_alloc2 _ _ _)];exact J1q _ _ _
 have e0:w1.cell? ⟨w.heap.size,0,none⟩=some (.slice l.ra p.rl l.rc):=m1.cell (by go_simp);have e1:w1.cell? ⟨w.heap.size,1,none⟩=some (.slice l.ca p.cl l.cc):=m1.cell (by go_simp);have Hm1:Hid (More w w1):=(((More.refl _).alloc _ _).alloc _ _).trans m1;clear m1;cases r1 with
 | false=>
  clear h1;go_wp2_with (refine wpList_store_row rfl 84 (.tmp 6) (.tmp 20) rfl (w.heap.size+1) z rfl rfl 84 z hrow (by rw[Hz.out.2.2];exact Hz.out.2.1) rfl (Hz.out.1.one rfl rfl rfl rfl rfl) ?_;rw[setRow_self _ _ _ _ _ hrow])
  refine bodyPost_ret (J1y rfl _ _ (w.heap.size+1) 84 z (0,0) _ rfl hrow Tryz.underlying84 rfl (by rw[Hz.out.2.2];exact Hz.out.2.1)) rfl ?_;rw[HP.out];exact⟨z,Hz.out.1,rfl,Hm1.out⟩
 | true=>
  have HA:Hid (p.Ok 8000 10):=h1.1 rfl;clear h1;go_wp2_with (fail)
  refine(J5r l.ra p.rl l.rc l.ca p.cl l.cc ma ml mc l.rb l.ro mb mo p.log p.sec A L C _ H.out.1.hr (H.out.1.regs.more Hm1.out) H.out.2.1 (H.out.2.2.1.more Hm1.out)).mono ?_;rintro e w2 ⟨r2,rfl,h2,m2⟩;have Hm2:Hid (More w w2):=Hm1.out.trans m2;have hrow2:w2.heap[w.heap.size+1]?=some (.cells z 84 (0,0)):=by rw[m2.block (w.heap.size+1) (by rcases Nat.lt_or_ge (w.heap.size+1) w1.heap.size with h' | h';exact h';rw[Array.getElem?_eq_none h']at hrow;cases hrow)];exact hrow
  clear hrow;have hrow:=hrow2;clear m2 e0 e1 hrow2;cases r2 with
  | true=>exact absurd ⟨HA.out,h2.1 rfl⟩ H.out.2.2.2
  | false=>
   clear h2;go_wp2_with (refine wpList_store_row rfl 84 (.tmp 6) (.tmp 20) rfl (w.heap.size+1) z rfl rfl 84 z hrow (by rw[Hz.out.2.2];exact Hz.out.2.1) rfl (Hz.out.1.one rfl rfl rfl rfl rfl) ?_;rw[setRow_self _ _ _ _ _ hrow])
   refine bodyPost_ret (J1y rfl _ _ (w.heap.size+1) 84 z (0,0) _ rfl hrow Tryz.underlying84 rfl (by rw[Hz.out.2.2];exact Hz.out.2.1)) rfl ?_;rw[HP.out];exact⟨z,Hz.out.1,rfl,Hm2.out⟩

theorem J6i(p:Prg)(l:Loc)(ma:Option Addr)(ml mc mb mo:Nat)(A:Nat->Option Addr)(L C:Nat->Nat)(fuel:Int)(w:World)(h:PIn w p l)(hma:0 < ml->ma=some ⟨mb,mo,none⟩)(hm:ListsAt w mb mo ml A L C)(hok:p.Ok 8000 10)(hfit:J2r p.rl p.log ml L)(hf:fuel < 0\/40000 < fuel):
  Calls Tryz.prog 24 #[.agg #[.slice l.ra p.rl l.rc,.slice l.ca p.cl l.cc],.slice ma ml mc,V fuel] w fun e w'=>∃z,MC z (.slice none 0 0) (.slice none 0 0) (ms0 0)/\e=.returned (.tuple #[.agg z,V 3])/\More w w':=by
 have hb3:p.Ok 8000 10/\J2r p.rl p.log ml L/\(fuel < 0\/40000 < fuel):=⟨hok,hfit,hf⟩;clear hok hfit hf;obtain⟨z,z1,z2,z3,z4⟩:=zrow;have H:Hid (PIn w p l/\(0 < ml->ma=some ⟨mb,mo,none⟩)/\ListsAt w mb mo ml A L C/\(p.Ok 8000 10/\J2r p.rl p.log ml L/\(fuel < 0\/40000 < fuel))):=⟨h,hma,hm,hb3⟩;have Hz:Hid (MC z (.slice none 0 0) (.slice none 0 0) (ms0 0)/\(Tryz.prog.info? 84).map (·.size)=some 411/\z.size=411):=⟨z3,z4,z3.size rfl⟩;obtain⟨P,hP⟩:∃P,P=fun(e:Ending) (w':World)=>∃z,MC z (.slice none 0 0) (.slice none 0 0) (ms0 0)/\e=.returned (.tuple #[.agg z,V 3])/\More w w':=⟨_,rfl⟩
 rw[<-hP];have HP:Hid (P=fun(e:Ending) (w':World)=>∃z,MC z (.slice none 0 0) (.slice none 0 0) (ms0 0)/\e=.returned (.tuple #[.agg z,V 3])/\More w w'):=hP;clear h hma hm z3 z4 hP hb3;go_enter Tryz.func24,Tryz.ntmps24;go_wp2_with (fail)
 refine(J3u p l _ (H.out.1.more (((More.refl _).alloc _ _).alloc _ _))).mono ?_;rintro e w1 ⟨r1,rfl,h1,m1⟩;have hrow:w1.heap[w.heap.size+1]?=some (.cells z 84 (0,0)):=by rw[m1.block (w.heap.size+1) (size_alloc2 _ _ _)];exact J1q _ _ _
 have e0:w1.cell? ⟨w.heap.size,0,none⟩=some (.slice l.ra p.rl l.rc):=m1.cell (by go_simp);have e1:w1.cell? ⟨w.heap.size,1,none⟩=some (.slice l.ca p.cl l.cc):=m1.cell (by go_simp);have Hm1:Hid (More w w1):=(((More.refl _).alloc _ _).alloc _ _).trans m1;clear m1;obtain rfl:r1=true:=h1.2 H.out.2.2.2.1;clear h1;go_wp2_with (fail)
 refine(J5r l.ra p.rl l.rc l.ca p.cl l.cc ma ml mc l.rb l.ro mb mo p.log p.sec A L C _ H.out.1.hr (H.out.1.regs.more Hm1.out) H.out.2.1 (H.out.2.2.1.more Hm1.out)).mono ?_;rintro e w2 ⟨r2,rfl,h2,m2⟩;have Hm2:Hid (More w w2):=Hm1.out.trans m2;have hrow2:w2.heap[w.heap.size+1]?=some (.cells z 84 (0,0)):=by rw[m2.block (w.heap.size+1) (by rcases Nat.lt_or_ge (w.heap.size+1) w1.heap.size with h' | h';exact h';rw[Array.getElem?_eq_none h']at hrow;cases hrow)];exact hrow
 clear hrow;have hrow:=hrow2;obtain rfl:r2=true:=h2.2 H.out.2.2.2.2.1;clear m2 e0 e1 hrow2 h2;by_cases hf:fuel < 0
 ·go_wp2_with (refine wpList_store_row rfl 84 (.tmp 6) (.tmp 27) rfl (w.heap.size+1) z rfl rfl 84 z hrow (by rw[Hz.out.2.2];exact Hz.out.2.1) rfl (Hz.out.1.one rfl rfl rfl rfl rfl) ?_;rw[setRow_self _ _ _ _ _ hrow])
  refine bodyPost_ret (J1y rfl _ _ (w.heap.size+1) 84 z (0,0) _ rfl hrow Tryz.underlying84 rfl (by rw[Hz.out.2.2];exact Hz.out.2.1)) rfl ?_;rw[HP.out];exact⟨z,Hz.out.1,rfl,Hm2.out⟩
 ·have hf2:40000 < fuel:=by have:=H.out.2.2.2.2.2;omega
  have hf1:decide (fuel < 0)=false:=by simp;omega
  go_wp2_with (refine wpList_store_row rfl 84 (.tmp 6) (.tmp 27) rfl (w.heap.size+1) z rfl rfl 84 z hrow (by rw[Hz.out.2.2];exact Hz.out.2.1) rfl (Hz.out.1.one rfl rfl rfl rfl rfl) ?_;rw[setRow_self _ _ _ _ _ hrow])
  refine bodyPost_ret (J1y rfl _ _ (w.heap.size+1) 84 z (0,0) _ rfl hrow Tryz.underlying84 rfl (by rw[Hz.out.2.2];exact Hz.out.2.1)) rfl ?_;rw[HP.out];exact⟨z,Hz.out.1,rfl,Hm2.out⟩
theorem MC.set{c:Array Value}{rv cv rv' cv':Value}{x x':Ms}(h:MC c rv cv x)(j:Nat)(v:Value)(hj:j < 411)(ht:x'.tl=x.tl)(hx:∀i,i < 411->cellF rv' cv' x' i=if i=j then v else cellF rv cv x i):MC (c.setIfInBounds j v) rv' cv' x':=by
  refine⟨by simp[h.big],fun i hi=>?_,fun i hi=>?_⟩
  · rw[hx i hi,Array.getElem?_setIfInBounds]
    by_cases e:i=j
    · subst e
      rw[if_pos rfl,if_pos rfl,if_pos (by have:=h.big;omega)]
    · rw[if_neg (fun h=>e h.symm),if_neg e]
      exact h.at_ i hi
  · rw[Array.getElem?_setIfInBounds,if_neg (by omega),ht]
    exact h.tail i hi
theorem MC.first{z:Array Value}(h:MC z (.slice none 0 0) (.slice none 0 0) (ms0 0))(rv cv:Value)(fuel:Int):MC (((z.setIfInBounds 0 rv).setIfInBounds 1 cv).setIfInBounds 402 (V fuel)) rv cv (ms0 fuel):=by
  have h1:MC (z.setIfInBounds 0 rv) rv (.slice none 0 0) (ms0 0):=h.set 0 rv (by omega) rfl fun i hi=>by unfold cellF;by_cases e:i=0<;>simp[e]
  have h2:MC ((z.setIfInBounds 0 rv).setIfInBounds 1 cv) rv cv (ms0 0):=h1.set 1 cv (by omega) rfl fun i hi=>by unfold cellF;by_cases e:i=1<;>simp[e]
  exact h2.set 402 _ (by omega) rfl fun i hi=>by unfold cellF ms0;by_cases e:i=402<;>simp[e]

theorem Jos:(Tryz.prog.info? 2).map (·.size)=some 1:=by kernel_rfl
theorem More.trans_setRow{w w':World}{g:Nat}{c:Array Value}(h:More w w')(hg:w.heap.size<=g):More w (w'.setRow g c):=
  Below.trans h ⟨rfl,rfl,rfl,by simp[World.setRow],fun k hk=>setRow_other w' g k c (by omega)⟩

theorem Jen(p:Prg)(l:Loc)(m:Mem)(ml:MLoc)(fuel:Int)(w:World)(h:PIn w p l)(hm:MIn w m ml)(hok:p.Ok 8000 10)(hfit:J2r p.rl p.log m.ml m.len)(hlen:∀i,i < m.ml->0 < m.len i/\m.len i<=64)(f0:0<=fuel)(f1:fuel<=40000):
    Calls Tryz.prog 24 #[.agg #[.slice l.ra p.rl l.rc,.slice l.ca p.cl l.cc],.slice ml.ma m.ml ml.mc,V fuel] w fun e w'=>∃(c:Array Value) (W S:Nat->Int),e=.returned (.tuple #[.agg c,V 0])/\MC c (.slice l.ra p.rl l.rc) (.slice l.ca p.cl l.cc) { ms0 fuel with wd:=W,st:=S }/\
      (∀j,j<=m.ml->S j=(baseN m.len j:Int))/\(∀j,j < m.ml->∀i,i < m.len j->W (baseN m.len j+i)=m.wd j i)/\More w w':=by
  obtain⟨z,z1,z2,z3,z4⟩:=zrow;obtain⟨ma,mb,mo,mc,A,C0,gb,go⟩:=ml;have H:Hid (PIn w p l/\MIn w m ⟨ma,mb,mo,mc,A,C0,gb,go⟩/\p.Ok 8000 10/\J2r p.rl p.log m.ml m.len/\(∀i,i < m.ml->0 < m.len i/\m.len i<=64)):=⟨h,hm,hok,hfit,hlen⟩;have Hz:Hid (MC z (.slice none 0 0) (.slice none 0 0) (ms0 0)/\(Tryz.prog.info? 84).map (·.size)=some 411/\z.size=411):=⟨z3,z4,z3.size rfl⟩;have hzs:z.size=411:=z3.size rfl;have Hc:Hid (MC (((z.setIfInBounds 0 (.slice l.ra p.rl l.rc)).setIfInBounds 1 (.slice l.ca p.cl l.cc)).setIfInBounds 402 (V fuel)) (.slice l.ra p.rl l.rc) (.slice l.ca p.cl l.cc) (ms0 fuel)):=z3.first _ _ _
  obtain⟨P,hP⟩:∃P,P=fun(e:Ending) (w':World)=>∃(c:Array Value) (W S:Nat->Int),e=.returned (.tuple #[.agg c,V 0])/\MC c (.slice l.ra p.rl l.rc) (.slice l.ca p.cl l.cc) { ms0 fuel with wd:=W,st:=S }/\
      (∀j,j<=m.ml->S j=(baseN m.len j:Int))/\(∀j,j < m.ml->∀i,i < m.len j->W (baseN m.len j+i)=m.wd j i)/\More w w':=⟨_,rfl⟩
  rw[<-hP]
  have HP:Hid (P=fun(e:Ending) (w':World)=>∃(c:Array Value) (W S:Nat->Int),e=.returned (.tuple #[.agg c,V 0])/\MC c (.slice l.ra p.rl l.rc) (.slice l.ca p.cl l.cc) { ms0 fuel with wd:=W,st:=S }/\
      (∀j,j<=m.ml->S j=(baseN m.len j:Int))/\(∀j,j < m.ml->∀i,i < m.len j->W (baseN m.len j+i)=m.wd j i)/\More w w'):=hP
  dsimp only;obtain⟨n,hn⟩:∃n,m.ml=n:=⟨_,rfl⟩;rw[hn];have Hn:Hid (m.ml=n):=hn;clear h hm hok hfit hlen z3 z4 hP hn;have f2:¬fuel < 0:=by omega
  have f3:¬40000 < fuel:=by omega
  have f2':decide (fuel < 0)=false:=by simp;omega
  have f3':decide (40000 < fuel)=false:=by simp;omega
  go_enter Tryz.func24,Tryz.ntmps24;go_wp2_with (fail)
  refine(J3u p l _ (H.out.1.more (((More.refl _).alloc _ _).alloc _ _))).mono ?_;rintro e w1 ⟨r1,rfl,h1,m1⟩;obtain rfl:r1=true:=h1.2 H.out.2.2.1;have hrow1:w1.heap[w.heap.size+1]?=some (.cells z 84 (0,0)):=by rw[m1.block (w.heap.size+1) (size_alloc2 _ _ _)];exact J1q _ _ _
  have e0:w1.cell? ⟨w.heap.size,0,none⟩=some (.slice l.ra p.rl l.rc):=m1.cell (by go_simp);have e1:w1.cell? ⟨w.heap.size,1,none⟩=some (.slice l.ca p.cl l.cc):=m1.cell (by go_simp);have Hm1:Hid (More w w1):=(((More.refl _).alloc _ _).alloc _ _).trans m1;have s1:w.heap.size+2<=w1.heap.size:=by have:=m1.size;have:=size_alloc2 w (.cells #[.slice l.ra p.rl l.rc,.slice l.ca p.cl l.cc] 28) (.cells z 84);omega
  clear m1 h1;go_wp2_with (fail)
  refine(J5r l.ra p.rl l.rc l.ca p.cl l.cc ma n mc l.rb l.ro mb mo p.log p.sec A m.len C0 _ H.out.1.hr (H.out.1.regs.more Hm1.out) (by rw[<-Hn.out];exact H.out.2.1.hm) (by rw[<-Hn.out];exact H.out.2.1.lists.more Hm1.out)).mono ?_;rintro e w2 ⟨r2,rfl,h2,m2⟩;obtain rfl:r2=true:=h2.2 (by rw[<-Hn.out];exact H.out.2.2.2.1);have hrow2:w2.heap[w.heap.size+1]?=some (.cells z 84 (0,0)):=by rw[m2.block (w.heap.size+1) (by omega)];exact hrow1
  have e0':=m2.cell e0;have e1':=m2.cell e1;have Hm2:Hid (More w w2):=Hm1.out.trans m2;have s2:w.heap.size+2<=w2.heap.size:=by have:=m2.size;omega
  clear m2 h2 e0 e1 hrow1;go_wp2_with (refine wpList_store_row rfl 84 (.tmp 8) (.tmp 30) rfl w2.heap.size (((z.setIfInBounds 0 (.slice l.ra p.rl l.rc)).setIfInBounds 1 (.slice l.ca p.cl l.cc)).setIfInBounds 402 (V fuel)) rfl rfl 84 z (heap_alloc_last _ _) (by rw[Hc.out.size rfl];exact Hz.out.2.1) (by rw[Hc.out.size rfl,Hz.out.2.2]) (Hc.out.one rfl rfl rfl rfl rfl) ?_;rw[World.setRow_alloc_new])
  have HN0:Hid (Nw w (w2.alloc (.cells (((z.setIfInBounds 0 (.slice l.ra p.rl l.rc)).setIfInBounds 1 (.slice l.ca p.cl l.cc)).setIfInBounds 402 (V fuel)) 84)) (.slice l.ra p.rl l.rc) (.slice l.ca p.cl l.cc) w2.heap.size m fuel z 0 (fun _=>0) (fun _=>0)):=
    ⟨Hm2.out.alloc _ _, s2, ⟨_, heap_alloc_last _ _, Hc.out⟩, fun j hj => by obtain rfl:j=0:=by omega
                                                                             rfl,fun j hj=>by omega,by rw[(World.grownBy_alloc w2 _ none).block _ (by omega) (by simp)];exact hrow2⟩
  clear hrow2 e0' e1' hzs;go_loopg [33] n (fun q i wr=>∃(k:Nat) (W S:Nat->Int),k+q=n/\i=V k/\Nw w wr (.slice l.ra p.rl l.rc) (.slice l.ca p.cl l.cc) w2.heap.size m fuel z k W S)
  case atStart=>exact⟨0,_,_,by omega,rfl,HN0.out⟩
  case round=>
    obtain⟨k,W,S,hkq,rfl,hN⟩:=hrel;have HNk:Hid (Nw w wr (.slice l.ra p.rl l.rc) (.slice l.ca p.cl l.cc) w2.heap.size m fuel z k W S):=hN;clear hN HN0;cases gk with
    | zero=>
      obtain rfl:k=n:=by omega
      obtain⟨c,hh,mc⟩:=HNk.out.at_.out;have Hcc:Hid (MC c (.slice l.ra p.rl l.rc) (.slice l.ca p.cl l.cc) { ms0 fuel with wd:=W,st:=S }):=mc;have hres:=HNk.out.res;have i70:Hid ((Tryz.prog.info? 84).map (·.size)=some c.size):=by rw[show Hid ((Tryz.prog.info? 84).map (·.size)=some c.size)=((Tryz.prog.info? 84).map (·.size)=some c.size) from rfl,Hcc.out.size rfl];exact Hz.out.2.1
      clear mc
      go_wp2_with (first
        | (refine wpList_load_row rfl 84 (.tmp 8) rfl w2.heap.size rfl 84 c (0,0) _ hh Tryz.underlying84 rfl i70.out ?_)
        | (refine wpList_store_row rfl 84 (.tmp 6) (.tmp 57) rfl (w.heap.size+1) c rfl rfl 84 z hres i70.out (by rw[Hcc.out.size rfl,Hz.out.2.2]) (Hcc.out.one rfl rfl rfl rfl rfl) ?_))
      refine bodyPost_ret (J1y rfl _ _ (w.heap.size+1) 84 c (0,0) _ rfl (setRow_heap _ _ _ _ _ _ hres) Tryz.underlying84 rfl i70.out) rfl ?_;rw[HP.out];refine⟨c,W,S,rfl,Hcc.out,by rw[Hn.out];exact HNk.out.st,by rw[Hn.out];exact HNk.out.wd,?_⟩;exact HNk.out.more.trans_setRow (by omega)
    | succ q=>
      have hk:k < n:=by omega
      have hk':(k:Int) < (n:Int):=by omega
      have hk0:(0:Int)<=(k:Int):=by omega
      have Hk:Hid (k < m.ml/\m.ml<=6):=⟨by rw[Hn.out];exact hk,by have:=H.out.2.2.2.1;have h1:=this.2.1;have h2:=this.1.1;omega⟩;obtain rfl:ma=some ⟨mb,mo,none⟩:=H.out.2.1.hm (by have:=Hk.out;omega);have q1:=(H.out.2.1.lists.more HNk.out.more) k Hk.out.1;dsimp only at q1;rw[show A k=some ⟨gb k,go k,none⟩ from H.out.2.1.hg k Hk.out.1 (H.out.2.2.2.2 k Hk.out.1).1]at q1
      have Hb:Hid (baseN m.len (k+1)<=384/\0 < m.len k/\m.len k<=64):=by
        refine⟨?_,H.out.2.2.2.2 k Hk.out.1⟩;have:=J66 m.len (k+1) (fun j hj=>(H.out.2.2.2.2 j (by have:=Hk.out;omega)).2);have:=Hk.out;omega
      have t0:wr.cell? ⟨w2.heap.size,404+k,none⟩=some (V (baseN m.len k:Int)):=by have:=(HNk.out.at_.st k (by have:=Hk.out;omega)).1;dsimp only at this;rw[HNk.out.st k (Nat.le_refl _)]at this;exact this
      have Hd:Hid (∀j,j < m.len k->Wr wr w2.heap.size (17+(baseN m.len k+j)) (V (W (baseN m.len k+j)))):=fun j hj=>HNk.out.at_.wd _ (by have:=Hb.out;simp only[baseN]at this;omega)
      obtain⟨t1,f1'⟩:=HNk.out.at_.st (k+1) (by have:=Hk.out;omega);dsimp only at t1;have Hstep:Hid (∀v,v=(baseN m.len (k+1):Int)->∃W' S',Nw w (((wr.drew).setCells w2.heap.size (17+baseN m.len k) (intsN (m.wd k) (m.len k))).setCell ⟨w2.heap.size,404+(k+1),none⟩ (V v)) (.slice l.ra p.rl l.rc) (.slice l.ca p.cl l.cc) w2.heap.size m fuel z (k+1) W' S'):=fun v hv=>HNk.out.step (by have:=Hk.out;omega) Hb.out.1 v hv
      have Hsrc:Hid (∀j v,(intsN (m.wd k) (m.len k))[j]?=some v->wr.drew.cell? ((⟨gb k,go k,none⟩:Addr).add j)=some v):=by
        intro j u hu;have hj:j < m.len k:=by have:=(List.getElem?_eq_some_iff.1 hu).1;rw[J1x]at this;exact this
        rw[Jl4 _ _ j hj]at hu;rw[Go.WideShapes.add_plain,<-Option.some.inj hu];exact HNk.out.more.drew.cell (H.out.2.1.words k Hk.out.1 j hj)
      obtain⟨lo,hlo⟩:∃lo,baseN m.len k=lo:=⟨_,rfl⟩;obtain⟨r,hr⟩:∃r,m.len k=r:=⟨_,rfl⟩;have hhi:baseN m.len (k+1)=lo+r:=by simp only[baseN,hlo,hr]
      rw[hhi,hr]at Hb;rw[hhi,hlo,hr]at Hstep;rw[hr]at Hsrc q1;rw[hlo]at t0;rw[hlo,hr]at Hd;have Hcl:Hid (∀j v,j < r->wr.drew.cell? ⟨w2.heap.size,404+k,none⟩=some v->True):=fun _ _ _ _=>trivial
      clear hlo hr hhi;have b1:(lo:Int)<=384:=by have:=Hb.out;omega
      have b3:(0:Int)<=(lo:Int):=by omega
      have b6:¬384=lo:=by have:=Hb.out;omega
      have hk7:(k:Int) < 7:=by have:=Hk.out;omega
      have hk17:(k:Int)+1 < 7:=by have:=Hk.out;omega
      have hk10:(0:Int)<=(k:Int)+1:=by omega
      have hkw:wrap64 ((k:Int)+1)=(k:Int)+1:=by unfold wrap64;have:=Hk.out;omega
      have hlr:wrap64 ((lo:Int)+(r:Int))=(lo:Int)+(r:Int):=by unfold wrap64;have:=Hb.out;omega
      have ht:((k:Int)+1).toNat=k+1:=by omega
      have hwr:=J17;obtain⟨y1,hy1⟩:∃y,S (k+1)=y:=⟨_,rfl⟩;rw[hy1]at t1;clear hy1
      have a404:(wr.drew.setCells w2.heap.size (17+lo) (intsN (m.wd k) r)).cell? ⟨w2.heap.size,404+k,none⟩=some (V (lo:Int)):=by
        rw[World.cell?_setCells_out _ _ _ _ _ (fun _ _=>.inr (by rw[J1x];have:=Hb.out;dsimp only;omega))];exact t0
      have a405:(wr.drew.setCells w2.heap.size (17+lo) (intsN (m.wd k) r)).cell? ⟨w2.heap.size,404+(k+1),none⟩=some (V y1):=by
        rw[World.cell?_setCells_out _ _ _ _ _ (fun _ _=>.inr (by rw[J1x];have:=Hb.out;dsimp only;omega))];exact t1
      have g405:(wr.drew.setCells w2.heap.size (17+lo) (intsN (m.wd k) r)).frozen? ⟨w2.heap.size,404+(k+1),none⟩=false:=by
        rw[World.frozen?_setCells];exact f1'
      obtain⟨SS,HS⟩:∃S:World->Prop,Hid (∀w',S w'↔w'.cell? ⟨w2.heap.size,404+k,none⟩=some (V (lo:Int))):=⟨_,fun _=>Iff.rfl⟩;have kl:∀i:{ w' // SS w' },i.val.cell? ⟨w2.heap.size,404+k,none⟩=some (V (lo:Int)):=fun i=>(HS.out _).1 i.property
      have hne:Nonempty { w' // SS w' }:=⟨⟨wr,(HS.out _).2 t0⟩⟩;go_wp2_with (fail)
      refine J04 (S:=SS) [(0,true),(1,true),(2,true),(3,true),(4,true),(5,true),(6,true),(7,true),(8,true),(9,true),(10,true),(11,true),(12,true),(13,true),(16,true),(14,false),(15,true),(17,true),(18,false)] (by kernel_rfl) (by kernel_rfl) (by kernel_rfl) ?_ ?_
      · exact(HS.out _).2 t0
      iterate 15 (refine J00 rfl (by kernel_rfl) (fun K hK=>?_);go_simp;refine hK _ _ ?_;clear hK K)
      refine J03 rfl (by kernel_rfl) (fun K hK=>?_);refine Jbu (.tmp 50) (.tmp 51) 35 35 rfl 2 Tryz.underlying35 Jos w2.heap.size (17+lo) (384 - lo) (384 - lo) ⟨gb k,go k,none⟩ r (C0 k) rfl rfl (intsN (m.wd k) r) (by rw[J1x];have:=Hb.out;simp only[Nat.min_def];split<;>omega) Hsrc.out (fun j hj=>?_) (fun j hj=>?_) (fun v hv=>?_) ?_
      · rw[J1x]at hj;rw[Nat.add_assoc];rw[(Hd.out j hj).kept (J3t wr none) (by simp) |>.1];rfl
      · rw[J1x]at hj;rw[Nat.add_assoc];exact((Hd.out j hj).kept (J3t wr none) (by simp)).2
      · simp[intsN]at hv;obtain⟨j,_,rfl⟩:=hv;rfl
      rw[J1x]
      go_simp
      refine hK _ _ ((HS.out _).2 a404) ?_;clear hK K
      iterate 2 (refine J00 rfl (by kernel_rfl) (fun K hK=>?_);go_simp;refine hK _ _ ?_;clear hK K)
      refine J03 rfl (by kernel_rfl) (fun K hK=>?_);go_simp;refine hK _ _ ((HS.out _).2 (by go_simp)) ?_;clear hK K;refine J06 ?_;clear kl hne;go_wp2;go_roundg q
      case measure=>omega
      case rel=>
        obtain⟨W',S',hst⟩:=Hstep.out ((lo:Int)+(r:Int)) (by push_cast;rfl);exact⟨k+1,W',S',by omega,by first | rfl | (push_cast;rfl),hst⟩
end
end Go.Proofs.YtephohhigbfafaaGreatDoor
