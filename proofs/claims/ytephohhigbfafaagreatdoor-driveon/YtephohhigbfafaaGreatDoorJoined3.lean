/-
  The texts HdCode, DvRegion, CvEq, CvCome, CvBehind, one behind the other, with what is used of them.
-/
import Derived.Test.YtephohhigbfafaaGreatDoorJoined2
import Derived.Deep.LoopGhost
import Derived.Deep.OwnRows
import Derived.Test.YtephohhigbfafaaGreatDoorJoined0
import Derived.Test.YtephohhigbfafaaGreatDoorJoined1
import Derived.ChangeKeysEq
import Derived.Deep.AppendLies
import Derived.OwnWalk
namespace Go.Proofs.YtephohhigbfafaaGreatDoor
set_option maxHeartbeats 4000000
section
open Go.RowKit
set_option linter.unusedSimpArgs false
set_option linter.unusedVariables false
set_option maxRecDepth 8000
theorem Jnk:(Tryz.prog.info? 41).map (fun i=>(i.zero,i.size,i.bytes))=some (some (.agg #[V 0,V 0,V 0,V 0,V 0]),5,40):=by kernel_rfl
theorem J7z(x:Value)(n j:Nat)(h:j < n):(madeCells #[x] n)[j]?=some x:=by unfold madeCells;simp[h,Nat.mod_one]

theorem Jeg{p:Prg}{k:Nat}(ok:p.Ok 200 8)(hk:k < p.cl):∀i ∈ maskL p (p.ins k),i.op=7\/i.op=8->0<=i.n/\i.n < p.cl:=by
 intro i hi h;unfold maskL at hi;by_cases hm:(p.ins k).op=3\/(p.ins k).op=4
 ·rw[if_pos hm]at hi
  simp only[List.mem_cons,List.not_mem_nil,or_false]at hi;rcases hi with rfl | rfl | rfl
  ·dsimp only at h;omega
  ·dsimp only at h;omega
  ·dsimp only at h;omega
 ·rw[if_neg hm]at hi
  obtain rfl:i=p.ins k:=by simpa using hi
  have hI:=ok.2.2.2 k hk;unfold InsOk at hI;rcases h with h | h
  ·simp[h]at hI
   exact hI.2.2.2
  ·simp[h]at hI
   exact hI.2.2.2
theorem J8c{p:Prg}(ok:p.Ok 200 8):∀n,n<=p.cl->∀i ∈ codeL p n,i.op=7\/i.op=8->0<=i.n/\i.n < p.cl
 | 0,_,i,hi,_=>by simp[codeL,codeG]at hi
 | n+1,hn,i,hi,h=>by
  rcases List.mem_append.1 hi with hi | hi
  ·exact J8c ok n (by omega) i hi h
  ·exact Jeg ok (by omega) i hi h

structure H1(w:World)(p:Prg)(rv c0:Value)(k:Nat)(cv:Value)(wr:World):Prop where
 box:Blk wr w.heap.size #[rv,c0] 28
 own:wr.ownsRow (w.heap.size+2) 41 5 cv (J0c p k) (flatI (codeL p k))
 room:∀j,j < p.cl->∃v,Wr wr (w.heap.size+1) j v
 done:∀j,j < k->wr.cell? ⟨w.heap.size+1,j,none⟩=some (V (J0c p j:Nat))
 more:More w wr

theorem H1.start(w:World)(p:Prg)(rv c0:Value):H1 w p rv c0 0 (.slice none 0 0) ((w.alloc (.cells #[rv,c0] 28)).alloc (.cells (madeCells #[V 0] p.cl) 2)):=by
 have hb:Blk ((w.alloc (.cells #[rv,c0] 28)).alloc (.cells (madeCells #[V 0] p.cl) 2)) (w.heap.size+1) (madeCells #[V 0] p.cl) 2:=by
  simpa using Blk.last (w.alloc (.cells #[rv,c0] 28)) (madeCells #[V 0] p.cl) 2
 exact⟨(Blk.last _ _ _).more ((More.refl _).alloc _ _),World.ownsRow_nil _ _ _ _,fun j hj=>⟨_,hb.cell (J7z _ _ _ hj),hb.frozen _⟩,fun j hj=>absurd hj (Nat.not_lt_zero _),((More.refl _).alloc _ _).alloc _ _⟩

theorem H1.step{w:World}{p:Prg}{rv c0:Value}{k:Nat}{cv:Value}{wr:World}(h:H1 w p rv c0 k cv wr)(hk:k < p.cl){w1 w2 w3:World}(cs:Array Value)
  (e1:w1=(wr.setCell ⟨w.heap.size+1,k,none⟩ (V (J0c p k:Nat))).alloc (.cells cs 41)) (m2:More w1 w2) (g3:w2.grownBy w3 cv.ownBlock) {cv':Value}
  (own:w3.ownsRow (w.heap.size+2) 41 5 cv' (J0c p (k+1)) (flatI (codeL p (k+1)))):H1 w p rv c0 (k+1) cv' w3:=by
 have hb:∀b,cv.ownBlock=some b->w.heap.size+2<=b:=fun b hb=>(h.own.lt b hb).1
 have g1:wr.grownBy w1 (some (w.heap.size+1)):=by rw[e1];exact J7y (J0s (J0u _ _) _ _) _
 have g2:wr.grownBy w2 (some (w.heap.size+1)):=Jb1 g1 m2;have n3:∀b,b < w.heap.size+2->some b≠cv.ownBlock:=fun b hlt e=>by have:=hb b e.symm;omega
 have r1:∀j,j < p.cl->∃v,Wr w1 (w.heap.size+1) j v:=fun j hj=>by
  obtain⟨v,hv⟩:=h.room j hj;rw[e1];by_cases q:k=j
  ·subst q;exact⟨_,(hv.same _).kept (World.grownBy_alloc _ _ none) (by simp)⟩
  ·exact⟨v,(hv.other _ _ _ (.inr q)).kept (World.grownBy_alloc _ _ none) (by simp)⟩
 have d1:∀j,j < k+1->w1.cell? ⟨w.heap.size+1,j,none⟩=some (V (J0c p j:Nat)):=fun j hj=>by
  obtain⟨v,hv⟩:=h.room j (by omega);rw[e1];refine((More.refl _).alloc _ _).cell ?_;by_cases q:k=j
  ·subst q;exact(hv.same _).1
  ·rw[World.cell?_setCell_other _ _ _ _ (by intro e;simp only[Addr.mk.injEq]at e;omega)]
   exact h.done j (by omega)
 refine⟨?_,own,fun j hj=>?_,fun j hj=>?_,?_⟩
 ·have h2:Blk w2 w.heap.size #[rv,c0] 28:=(g2.block _ h.box.lt (by simp)).trans h.box
  exact(g3.block _ h2.lt (n3 _ (by omega))).trans h2
 ·obtain⟨v,hv⟩:=r1 j hj
  exact⟨v,(hv.kept (m2.grow none) (by simp)).kept g3 (n3 _ (by omega))⟩
 ·exact g3.cell (m2.cell (d1 j hj)) (n3 _ (by show w.heap.size+1 < _;omega))
 ·have m1:More w w1:=by rw[e1];exact(h.more.setCell (by simp) _).alloc _ _
  exact(m1.trans m2).grownBy g3 (fun b e=>by have:=hb b e;omega)

structure InsWr(w:World)(g j:Nat)(i:Ins):Prop where
 op:Wr w g (j*5) (V i.op)
 a:Wr w g (j*5+1) (V i.a)
 b:Wr w g (j*5+2) (V i.b)
 c:Wr w g (j*5+3) (V i.c)
 n:Wr w g (j*5+4) (V i.n)
theorem InsWr.more{w w':World}{g j:Nat}{i:Ins}(m:More w w')(h:InsWr w g j i):InsWr w' g j i:=
 ⟨h.op.kept (m.grow none) (by simp),h.a.kept (m.grow none) (by simp),h.b.kept (m.grow none) (by simp),h.c.kept (m.grow none) (by simp),h.n.kept (m.grow none) (by simp)⟩
theorem Je0{L:List Ins}{j:Nat}(hj:j < L.length)(d:Ins):L[j]?=some (L.getD j d):=by
 rw[List.getD_eq_getElem?_getD];rw[List.getElem?_eq_getElem hj]
 rfl
section
variable {M:Nat->List Ins} {cl:Nat}
def mixG(M:Nat->List Ins)(cl q j:Nat):Ins:=if j < q then hardG M cl j else(codeG M cl).getD j ⟨0,0,0,0,0⟩
structure H2(M:Nat->List Ins)(cl:Nat)(w:World)(bs:List (Nat × Array Value × TypeId))(sb gc q:Nat)(wr:World):Prop where
 code:∀j,j < J0g M cl->InsWr wr gc j (mixG M cl q j)
 starts:∀j,j < cl->wr.cell? ⟨sb,j,none⟩=some (V (J0g M j:Nat))
 box:∀x ∈ bs,Blk wr x.1 x.2.1 x.2.2/\x.1 < gc
 ne:sb < gc
 lo:w.heap.size<=gc
 hi:gc < wr.heap.size
 more:More w wr
variable {w:World} {bs:List (Nat × Array Value × TypeId)} {sb gc q:Nat} {wr w':World}
theorem H2.start{lo cap:Nat}(own:wr.ownsRow lo 41 5 (.slice (some ⟨gc,0,none⟩) (J0g M cl) cap) (J0g M cl) (flatI (codeG M cl)))
  (starts:∀j,j < cl->wr.cell? ⟨sb,j,none⟩=some (V (J0g M j:Nat))) (box:∀x ∈ bs,Blk wr x.1 x.2.1 x.2.2/\x.1 < lo) (hl:sb < lo/\w.heap.size<=lo) (m:More w wr):H2 M cl w bs sb gc 0 wr:=by
 have hg:=own.lt gc rfl;refine⟨fun j hj=>?_,starts,fun x hx=>⟨(box x hx).1,by have:=(box x hx).2;omega⟩,by omega,by omega,hg.2,m⟩;have e:=Jfp (codeG M cl) j _ (Je0 hj ⟨0,0,0,0,0⟩);have fz:∀o,wr.frozen? ⟨gc,o,none⟩=false:=fun o=>World.ownsRow.frozenAt own o
 have c:∀o v,(flatI (codeG M cl))[o]?=some v->o < J0g M cl*5->Wr wr gc o v:=fun o v hv ho=>⟨by rw[World.ownsRow.cellAt own _ ho];exact hv,fz _⟩
 exact⟨c _ _ e.1 (by omega),c _ _ e.2.1 (by omega),c _ _ e.2.2.1 (by omega),c _ _ e.2.2.2.1 (by omega),c _ _ e.2.2.2.2 (by omega)⟩
theorem J8l:mixG M cl q q=(codeG M cl).getD q ⟨0,0,0,0,0⟩:=by unfold mixG;rw[if_neg (Nat.lt_irrefl _)]
theorem Jct{j:Nat}(h:j≠q):mixG M cl (q+1) j=mixG M cl q j:=by
 unfold mixG;by_cases e:j < q
 ·rw[if_pos e,if_pos (by omega)]
 ·rw[if_neg e,if_neg (by omega)]
theorem Jcs:mixG M cl (q+1) q=leadG M (mixG M cl q q):=by
 rw[J8l];unfold mixG hardG;rw[if_pos (by omega)]

theorem H2.far(h:H2 M cl w bs sb gc q wr)(m:More wr w'):H2 M cl w bs sb gc q w':=
 ⟨fun j hj=>(h.code j hj).more m,fun j hj=>m.cell (h.starts j hj),fun x hx=>⟨(h.box x hx).1.more m,(h.box x hx).2⟩,h.ne,h.lo,Nat.lt_of_lt_of_le h.hi m.size,h.more.trans m⟩
theorem H2.pass(h:H2 M cl w bs sb gc q wr)(m:More wr w')(h7:¬((mixG M cl q q).op=7\/(mixG M cl q q).op=8)):H2 M cl w bs sb gc (q+1) w':=by
 have k:=h.far m;refine⟨fun j hj=>?_,k.starts,k.box,k.ne,k.lo,k.hi,k.more⟩;by_cases e:j=q
 ·subst e
  rw[Jcs,J31 _ h7];exact k.code j hj
 ·rw[Jct e]
  exact k.code j hj
theorem H2.lead(h:H2 M cl w bs sb gc q wr)(h7:(mixG M cl q q).op=7\/(mixG M cl q q).op=8):H2 M cl w bs sb gc (q+1) (wr.setCell ⟨gc,q*5+4,none⟩ (V (J0g M (mixG M cl q q).n.toNat:Nat))):=by
 have hlo:=h.lo;have hne:=h.ne;refine⟨fun j hj=>?_,fun j hj=>?_,fun x hx=>⟨(h.box x hx).1.other (by have:=(h.box x hx).2;omega) _ _,(h.box x hx).2⟩,h.ne,h.lo,?_,?_⟩
 ·have hc:=h.code j hj
  by_cases e:j=q
  ·subst e
   rw[Jcs];unfold leadG;rw[if_pos h7];exact⟨hc.op.other _ _ _ (.inr (by omega)),hc.a.other _ _ _ (.inr (by omega)),hc.b.other _ _ _ (.inr (by omega)),hc.c.other _ _ _ (.inr (by omega)),hc.n.same _⟩
  ·rw[Jct e]
   exact⟨hc.op.other _ _ _ (.inr (by omega)),hc.a.other _ _ _ (.inr (by omega)),hc.b.other _ _ _ (.inr (by omega)),hc.c.other _ _ _ (.inr (by omega)),hc.n.other _ _ _ (.inr (by omega))⟩
 ·rw[World.cell?_setCell_other _ _ _ _ (by intro e;simp only[Addr.mk.injEq]at e;omega)]
  exact h.starts j hj
 ·simp[World.setCell];exact h.hi
 ·exact h.more.setCell (by show w.heap.size<=gc;omega) _
theorem H2.end_(h:H2 M cl w bs sb gc (J0g M cl) wr):CodeAt wr gc 0 (J0g M cl) (hardG M cl):=fun j hj=>by
 have hc:=h.code j hj;have e:mixG M cl (J0g M cl) j=hardG M cl j:=by unfold mixG;rw[if_pos hj]
 rw[e]at hc;simp only[Nat.zero_add];exact⟨hc.op.1,hc.a.1,hc.b.1,hc.c.1,hc.n.1⟩
end
abbrev mixL(p:Prg)(q j:Nat):Ins:=mixG (maskK p) p.cl q j
theorem H1.second{w:World}{p:Prg}{rv c0:Value}{gc cap:Nat}{wr:World}(h:H1 w p rv c0 p.cl (.slice (some ⟨gc,0,none⟩) (J0c p p.cl) cap) wr):H2 (maskK p) p.cl w [] (w.heap.size+1) gc 0 wr:=
 H2.start h.own h.done (by simp) (by omega) h.more

structure H2Z(Z:Nat)(M:Nat->List Ins)(cl:Nat)(w:World)(bs:List (Nat × Array Value × TypeId))(sb gc q:Nat)(wr:World):Prop extends H2 M cl w bs sb gc q wr where
 row:RowT 41 5 w.heap.size wr (.slice (some ⟨gc,0,none⟩) (J0g M cl) Z) (J0g M cl)
theorem H2Z.far{Z:Nat}{M:Nat->List Ins}{cl:Nat}{w:World}{bs:List (Nat × Array Value × TypeId)}{sb gc q:Nat}{wr w':World}(h:H2Z Z M cl w bs sb gc q wr)(m:More wr w'):H2Z Z M cl w bs sb gc q w':=⟨h.toH2.far m,h.row.more m⟩
theorem H2Z.pass{Z:Nat}{M:Nat->List Ins}{cl:Nat}{w:World}{bs:List (Nat × Array Value × TypeId)}{sb gc q:Nat}{wr w':World}(h:H2Z Z M cl w bs sb gc q wr)(m:More wr w')(h7:¬((mixG M cl q q).op=7\/(mixG M cl q q).op=8)):H2Z Z M cl w bs sb gc (q+1) w':=⟨h.toH2.pass m h7,h.row.more m⟩
theorem H2Z.lead{Z:Nat}{M:Nat->List Ins}{cl:Nat}{w:World}{bs:List (Nat × Array Value × TypeId)}{sb gc q:Nat}{wr:World}(h:H2Z Z M cl w bs sb gc q wr)(h7:(mixG M cl q q).op=7\/(mixG M cl q q).op=8):H2Z Z M cl w bs sb gc (q+1) (wr.setCell ⟨gc,q*5+4,none⟩ (V (J0g M (mixG M cl q q).n.toNat:Nat))):=⟨h.toH2.lead h7,h.row.put _ _ _⟩
theorem Jcf(p:Prg)(l:Loc)(w:World)(hp:PIn w p l)(hok:p.Ok 200 8):
  Calls Tryz.prog 37 #[.agg #[.slice l.ra p.rl l.rc,.slice l.ca p.cl l.cc]] w fun e w'=>∃gc cap,e=.returned (.slice (some ⟨gc,0,none⟩) (J0c p p.cl) cap)/\w.heap.size<=gc/\CodeAt w' gc 0 (J0c p p.cl) (hardL p)/\RowT 41 5 w.heap.size w' (.slice (some ⟨gc,0,none⟩) (J0c p p.cl) cap) (J0c p p.cl)/\More w w':=by
 suffices hP:∀P:Ending->World->Prop,(∀gc cap w',w.heap.size<=gc->CodeAt w' gc 0 (J0c p p.cl) (hardL p)->RowT 41 5 w.heap.size w' (.slice (some ⟨gc,0,none⟩) (J0c p p.cl) cap) (J0c p p.cl)->More w w'->P (.returned (.slice (some ⟨gc,0,none⟩) (J0c p p.cl) cap)) w')->Calls Tryz.prog 37 #[.agg #[.slice l.ra p.rl l.rc,.slice l.ca p.cl l.cc]] w P from hP _ (fun gc cap w' h a z b=>⟨gc,cap,rfl,h,a,z,b⟩)
 intro P hP0;have HP:Hid (∀gc cap w',w.heap.size<=gc->CodeAt w' gc 0 (J0c p p.cl) (hardL p)->RowT 41 5 w.heap.size w' (.slice (some ⟨gc,0,none⟩) (J0c p p.cl) cap) (J0c p p.cl)->More w w'->P (.returned (.slice (some ⟨gc,0,none⟩) (J0c p p.cl) cap)) w'):=hP0;have Hp:Hid (PIn w p l/\p.Ok 200 8):=⟨hp,hok⟩;have hcl0:=hok.2.1;have hcl1:=hok.2.2.1;have hca:=hp.hc (by omega);obtain⟨i0,hi,hz0,hz1,hz2⟩:=info_parts Jnk;have Hi:Hid (Tryz.prog.info? 41=some i0/\i0.zero=some (.agg #[V 0,V 0,V 0,V 0,V 0])/\i0.size=5/\i0.bytes=40):=⟨hi,hz0,hz1,hz2⟩;obtain⟨ra,Hra⟩:∃x,Hid (l.ra=x):=⟨_,rfl⟩;obtain⟨rl,Hrl⟩:∃x,Hid (p.rl=x):=⟨_,rfl⟩;obtain⟨rc,Hrc⟩:∃x,Hid (l.rc=x):=⟨_,rfl⟩;obtain⟨cb,Hcb⟩:∃x,Hid (l.cb=x):=⟨_,rfl⟩;obtain⟨co,Hco⟩:∃x,Hid (l.co=x):=⟨_,rfl⟩;obtain⟨cc,Hcc⟩:∃x,Hid (l.cc=x):=⟨_,rfl⟩;obtain⟨cl,Hcl⟩:∃x,Hid (p.cl=x):=⟨_,rfl⟩;rw[hca,Hra.out,Hrl.out,Hrc.out,Hcb.out,Hco.out,Hcc.out,Hcl.out];rw[Hcl.out]at hcl0 hcl1
 have HC:Hid (∀w1:World,More w w1->CodeAt w1 cb co cl p.ins):=fun w1 m1=>by
  have:=hp.code.more m1;rw[Hcb.out,Hco.out,Hcl.out]at this;exact this
 have HM:Hid (∀k,k < cl->∀w1:World,More w w1->Calls Tryz.prog 78 #[.agg #[V (p.ins k).op,V (p.ins k).a,V (p.ins k).b,V (p.ins k).c,V (p.ins k).n],.slice ra rl rc] w1 fun e w'=>∃g,e=.returned (.slice (some ⟨g,0,none⟩) (maskL p (p.ins k)).length (maskL p (p.ins k)).length)/\NewsAt w' g (maskL p (p.ins k))/\More w1 w'):=fun k hk w1 m1=>by
  have hI:=hok.2.2.2 k (by rw[Hcl.out];exact hk)
  have:=Jcq p (p.ins k) l.ra l.rc l.rb l.ro w1 hp.hr (hp.regs.more m1) hok.1 (fun h=>by
   unfold InsOk at hI;rcases h with h | h
   ·simp[h]at hI;exact hI.2.2
   ·simp[h]at hI;exact hI.2.2)
  rw[Hra.out,Hrl.out,Hrc.out]at this;exact this
 have Hst:Hid (∀k,k<=cl->J0c p k<=600):=fun k hk=>by have:=J2o p k;omega
 have HS0:Hid (H1 w p (.slice ra rl rc) (.slice (some ⟨cb,co,none⟩) cl cc) 0 (.slice none 0 0) ((w.alloc (.cells #[.slice ra rl rc,.slice (some ⟨cb,co,none⟩) cl cc] 28)).alloc (.cells (madeCells #[V 0] cl) 2))):=by
  have:=H1.start w p (.slice ra rl rc) (.slice (some ⟨cb,co,none⟩) cl cc);rw[Hcl.out]at this;exact this
 have hmk:=run_make_row' (P:=Tryz.prog) 35 2 (V 0) 8 Tryz.underlying35 info2 rfl .i64 .i64 cl (by omega) (by omega);clear hP0 hp hok hi hz0 hz1 hz2 hca;go_enter Tryz.func37,Tryz.ntmps37;go_wp2_with (fail)
 clear hmk;go_loopg [16,3] cl (fun g iv cv wr=>∃(k:Nat) (va:Option Addr) (vc:Nat),k+g=cl/\iv=V k/\cv=.slice va (J0c p k) vc/\Hid (H1 w p (.slice ra rl rc) (.slice (some ⟨cb,co,none⟩) cl cc) k (.slice va (J0c p k) vc) wr))
 case atStart=>exact⟨0,none,0,by omega,rfl,rfl,HS0.out⟩
 case round=>
  obtain⟨k,va,vc,hkg,rfl,rfl,Hr⟩:=hrel;clear HS0;cases gk with
  | zero=>
   obtain rfl:k=cl:=by omega
   have hn0:1<=J0c p k:=by
    obtain⟨j,rfl⟩:∃j,k=j+1:=⟨k - 1,by omega⟩;rw[J3b];have:=(J3a p j).1;omega
   have hn1:=Hst.out k (Nat.le_refl _);obtain⟨gc,cap,hv,_,_⟩:=Hr.out.own.form (by omega);cases hv
   have H20:Hid (H2Z vc (maskK p) p.cl w [] (w.heap.size+1) gc 0 wr):=by
    have h1:=Hr.out;rw[<-Hcl.out]at h1;exact⟨h1.second,(RowT.of_own h1.own).low (by omega)⟩
   have Hpl:Hid (∀q,q < J0c p k->(mixL p q q).op=7\/(mixL p q q).op=8->0<=(mixL p q q).n/\(mixL p q q).n < k):=fun q hq h=>by
    simp only[mixL,J8l]at h |-;have:=J8c Hp.out.2 p.cl (Nat.le_refl _) _ (List.mem_of_getElem? (Je0 (L:=codeL p p.cl) (j:=q) (by rw[Hcl.out];exact hq) ⟨0,0,0,0,0⟩)) h;rw[Hcl.out]at this |-;exact this
   have Hend:Hid (∀w',H2Z vc (maskK p) p.cl w [] (w.heap.size+1) gc (J0c p k) w'->P (.returned (.slice (some ⟨gc,0,none⟩) (J0c p k) vc)) w'):=fun w' h2=>by
    have h1:=HP.out gc vc w';rw[Hcl.out]at h1;refine h1 (by have:=h2.lo;omega) ?_ (by have:=h2.row;rw[<-Hcl.out];exact this) h2.more;have h3:=h2;rw[<-Hcl.out]at h3;rw[<-Hcl.out];exact h3.end_
   clear HP HM HC;obtain⟨sn,Hsn⟩:∃x,Hid (J0c p k=x):=⟨_,rfl⟩;rw[Hsn.out]at hn0 hn1 Hpl Hend Hr |-;obtain⟨wm,rfl⟩:∃wm,wm=wr:=⟨wr,rfl⟩;go_wp2_with (fail)
   go_loopg [35] sn (fun g2 iv wr2=>∃q:Nat,q+g2=sn/\iv=V q/\Hid (H2Z vc (maskK p) p.cl w [] (w.heap.size+1) gc q wr2))
   case atStart=>exact⟨0,by omega,rfl,H20.out⟩
   case round=>
    obtain⟨q,hqg,rfl,Hr2⟩:=hrel;clear H20;cases gk with
    | zero=>
     obtain rfl:q=sn:=by omega
     have He:Hid (P (.returned (.slice (some ⟨gc,0,none⟩) q vc)) wr):=Hend.out wr Hr2.out;clear Hend;go_wp2;exact He.out
    | succ g=>
     have hq:q < sn:=by omega
     have hqi:(q:Int) < sn:=by omega
     have hq63:wrap64 ((q:Int)+1)=(q:Int)+1:=by unfold wrap64;omega
     have hI:InsWr wr gc q (mixL p q q):=Hr2.out.code q (by show q < J0c p p.cl;rw[Hcl.out,Hsn.out];exact hq);have Hpq:=Hpl.out q hq;have Hps:Hid (¬((mixL p q q).op=7\/(mixL p q q).op=8)->∀w',More wr w'->H2Z vc (maskK p) p.cl w [] (w.heap.size+1) gc (q+1) w'):=fun h w' m=>Hr2.out.pass m h
     have Hld:Hid ((mixL p q q).op=7\/(mixL p q q).op=8->H2Z vc (maskK p) p.cl w [] (w.heap.size+1) gc (q+1) (wr.setCell ⟨gc,q*5+4,none⟩ (V (J0c p (mixL p q q).n.toNat:Nat)))):=fun h=>Hr2.out.lead h
     obtain⟨⟨op,a,b,c,n⟩,HI⟩:∃x,Hid (mixL p q q=x):=⟨_,rfl⟩;rw[HI.out]at hI Hpq Hps Hld;obtain⟨⟨c0,_⟩,⟨c1,_⟩,⟨c2,_⟩,⟨c3,_⟩,⟨c4,f4⟩⟩:=hI;dsimp only at c0 c1 c2 c3 c4 Hpq Hps Hld;have zg:=Hr2.out.hi;by_cases h78:op=7\/op=8
     ·have hpq:=Hpq h78
      obtain⟨n0,n1⟩:=hpq;obtain⟨nn,rfl⟩:=Int.eq_ofNat_of_zero_le n0;have hnk:(nn:Int) < (k:Int):=n1;have hsN:wr.cell? ⟨w.heap.size+1,nn,none⟩=some (V (J0c p nn:Nat)):=Hr2.out.starts nn (by rw[Hcl.out];omega);have zs:=J0q hsN;dsimp only at zs;have Hn2:Hid (∀w',More (wr.setCell ⟨gc,q*5+4,none⟩ (V (J0c p nn:Nat))) w'->H2Z vc (maskK p) p.cl w [] (w.heap.size+1) gc (q+1) w'):=fun w' m'=>(Hld.out h78).far m'
      obtain⟨sN,HsN⟩:∃x,Hid (J0c p nn=x):=⟨_,rfl⟩;rw[HsN.out]at hsN Hn2;have ne1:¬wr.heap.size=gc:=by omega
      have ne2:¬gc=wr.heap.size:=by omega
      clear Hps Hld Hpq n0 n1;rcases h78 with rfl | rfl
      all_goals
       go_wp2;go_roundg g
       case measure=>omega
       case rel=>exact⟨q+1,by omega,by first | rfl | simp,Hn2.out _ ((More.refl _).alloc _ _)⟩
     ·have e7:(op==7)=false:=by simp;omega
      have e8:(op==8)=false:=by simp;omega
      have Hn2:Hid (∀w',More wr w'->H2Z vc (maskK p) p.cl w [] (w.heap.size+1) gc (q+1) w'):=Hps.out h78;clear h78 Hps Hld Hpq;go_wp2;go_roundg g
      case measure=>omega
      case rel=>exact⟨q+1,by omega,by first | rfl | simp,Hn2.out _ ((More.refl _).alloc _ _)⟩
  | succ g=>
   have hk:k < cl:=by omega
   have hki:(k:Int) < cl:=by omega
   have hk63:wrap64 ((k:Int)+1)=(k:Int)+1:=by unfold wrap64;omega
   obtain⟨q0,q1,q2,q3,q4⟩:=HC.out wr Hr.out.more k hk;have HM1:=HM.out k hk;have HL:Hid (codeL p (k+1)=codeL p k++maskL p (p.ins k)/\J0c p k+(maskL p (p.ins k)).length=J0c p (k+1)/\1<=(maskL p (p.ins k)).length/\(maskL p (p.ins k)).length<=3):=⟨rfl,by rw[J3g,J3b],by rw[J3g];exact(J3a p k).1,by rw[J3g];exact(J3a p k).2⟩;obtain⟨L,HLL⟩:∃x,Hid (maskL p (p.ins k)=x):=⟨_,rfl⟩;rw[HLL.out]at HM1 HL;obtain⟨m,Hlen⟩:∃x,Hid (L.length=x):=⟨_,rfl⟩;rw[Hlen.out]at HM1 HL;have hst0:=Hst.out k (by omega);obtain⟨st,Hstk⟩:∃x,Hid (J0c p k=x):=⟨_,rfl⟩;rw[Hstk.out]at HL hst0 Hr |-;obtain⟨⟨op,a,b,c,n⟩,HI⟩:∃x,Hid (p.ins k=x):=⟨_,rfl⟩;rw[HI.out]at q0 q1 q2 q3 q4 HM1;dsimp only at q0 q1 q2 q3 q4 HM1;have HM2:Hid (∀w1:World,More w w1->Calls Tryz.prog 78 #[.agg #[V op,V a,V b,V c,V n],.slice ra rl rc] w1 fun e w'=>∃g,e=.returned (.slice (some ⟨g,0,none⟩) m m)/\NewsAt w' g L/\More w1 w'):=HM1;have b0:wr.cell? ⟨w.heap.size,0,none⟩=some (.slice ra rl rc):=Hr.out.box.cell rfl;have hz0:=Hr.out.box.lt;obtain⟨rv,hrv,hfz⟩:=Hr.out.room k (by rw[Hcl.out];exact hk);have hz1:w.heap.size+1 < wr.heap.size:=J0q hrv;have n1:¬wr.heap.size=w.heap.size+1:=by omega
   have n2:¬w.heap.size+1=wr.heap.size:=by omega
   obtain⟨w1,Hw1⟩:∃w_:World,Hid (w_=(wr.setCell ⟨w.heap.size+1,k,none⟩ (V (st:Nat))).alloc (.cells #[V op,V a,V b,V c,V n] 41)):=⟨_,rfl⟩;have Hm1:Hid (More w w1):=by rw[Hw1.out];exact(Hr.out.more.setCell (by simp) _).alloc _ _
   have Hg1:Hid (wr.grownBy w1 (some (w.heap.size+1))):=by rw[Hw1.out];exact J7y (J0s (J0u _ _) _ _) _
   clear HM1;go_wp2_with (fail)
   rw[<-Hw1.out];refine(HM2.out w1 Hm1.out).mono ?_;rintro e w2 ⟨g0,rfl,hnews,m2⟩;have Hnews:Hid (NewsAt w2 g0 L):=hnews;have Hm2:Hid (More w1 w2):=m2
   have Hown2:Hid (w2.ownsRow (w.heap.size+2) 41 5 (.slice va st vc) st (flatI (codeL p k))):=by
    have ho:=Hr.out.own;rw[Hstk.out]at ho;refine World.ownsRow.kept ho (Jb1 Hg1.out m2) ?_;cases hv:(Value.slice va st vc).ownBlock with
    | none=>left;rfl
    | some b=>
     right;intro e;have h1:=(World.ownsRow.lt ho b hv).1;have h2:=Option.some.inj e;omega
   have Hb2:Hid (w.heap.size+2<=w2.heap.size):=by
    have h1:=m2.size;have h2:=Hg1.out.size;show _<=_;omega
   clear hnews m2 q0 q1 q2 q3 q4 b0 hrv hfz;go_wp2_with (at_builtin;refine wpList_append_lies _ rfl (.tmp 26) (.tmp 30) 26 rfl (w.heap.size+2) 41 i0 (.agg #[V 0,V 0,V 0,V 0,V 0]) 5 40 Tryz.underlying26 Hi.out.1 Hi.out.2.1 Hi.out.2.2.1 Hi.out.2.2.2 rfl (by decide) (.slice va st vc) st (flatI (codeL p k)) rfl Hown2.out ⟨g0,0,none⟩ m m (flatI L) rfl (by rw[J4n,Hlen.out]) Hnews.out (J8e L) (by have:=HL.out.2.2.1;omega) (by have:=HL.out.2.2.2;unfold maxLen;omega) (by have:=HL.out.2.2.2;omega) Hb2.out w2.heap.size rfl ?_;intro g3 cap3 w3 own3 gr3 hat3 hlt3)
   have hst3:st+m=J0c p (k+1):=HL.out.2.1
   have Hr3:Hid (H1 w p (.slice ra rl rc) (.slice (some ⟨cb,co,none⟩) cl cc) (k+1) (.slice (some ⟨g3,0,none⟩) (J0c p (k+1)) cap3) w3):=by
    rw[hst3,<-J4m,<-HL.out.1]at own3;have e1:=Hw1.out;rw[<-Hstk.out]at e1 gr3;have hr:=Hr.out;rw[<-Hstk.out]at hr;exact hr.step (by rw[Hcl.out];exact hk) _ e1 Hm2.out gr3 own3
   clear own3 gr3 hat3 hlt3;go_wp2;go_roundg g
   case measure=>omega
   case rel=>exact⟨k+1,_,cap3,by omega,by first | rfl | simp,by rw[<-hst3],Hr3.out⟩
theorem Jmu:(Tryz.prog.info? 76).map (fun i=>(i.zero,i.size,i.bytes))=some (some (.agg #[V 0,.bool false]),2,16):=by kernel_rfl
theorem Jmt:(Tryz.prog.info? 35).map (fun i=>(i.zero,i.size,i.bytes))=some (some (.slice none 0 0),1,24):=by kernel_rfl

theorem Ja1(n:Nat):madeCells #[V 0] n=J2l (List.replicate n 0):=by
 apply Array.ext_getElem?;intro i;by_cases h:i < n
 ·rw[J7z _ _ _ h];simp[J2l,h]
 ·rw[Array.getElem?_eq_none (by rw[size_madeCells];omega),Array.getElem?_eq_none (by simp[J2l];omega)]
def J9n(rs:List (Int × Bool))(x y:Int):Prop:=0<=x/\x<=6/\0<=y/\y<=1/\rs.length < 6
def RegTo(rs:List (Int × Bool))(ms:List (List Int))(x y:Int)(rs':List (Int × Bool))(ms':List (List Int))(ans:List UInt8):Prop:=
 (¬J9n rs x y/\rs'=rs/\ms'=ms/\ans=[63])\/(J9n rs x y/\rs'=rs++[(x,decide (y=1))]/\ms'=ms++[List.replicate (2 ^ x.toNat) 0]/\ans=ansL okW [(rs.length:Int)+1])

theorem Jat(B G:Nat)(rs:List (Int × Bool))(cs:List Ins)(ms:List (List Int))(rv cv mv:Value)(w:World)(h:Ply 31 B G rs cs ms rv cv mv w)(hm:ms.length<=6)(sb so sc:Nat)(x y:Int)(hx:w.cell? ⟨sb,so,none⟩=some (V x))(hy:w.cell? ⟨sb,so+1,none⟩=some (V y))(hbs:OfType w (some sb) 2):
  Calls Tryz.prog 9 #[.pointer (some ⟨G,0,none⟩),.slice (some ⟨sb,so,none⟩) 2 sc] w fun e w'=>∃rs' ms' ans rv' mv',e=.returned (.string (txt ans))/\RegTo rs ms x y rs' ms' ans/\Ply 31 B G rs' cs ms' rv' cv mv' w'/\Below G w w':=by
 suffices hP:∀P:Ending->World->Prop,(∀rs' ms' ans rv' mv' w',RegTo rs ms x y rs' ms' ans->Ply 31 B G rs' cs ms' rv' cv mv' w'->Below G w w'->P (.returned (.string (txt ans))) w')->Calls Tryz.prog 9 #[.pointer (some ⟨G,0,none⟩),.slice (some ⟨sb,so,none⟩) 2 sc] w P from hP _ (fun rs' ms' ans rv' mv' w' h1 h2 h3=>⟨rs',ms',ans,rv',mv',rfl,h1,h2,h3⟩)
 intro P hP0;have HP:Hid (∀rs' ms' ans rv' mv' w',RegTo rs ms x y rs' ms' ans->Ply 31 B G rs' cs ms' rv' cv mv' w'->Below G w w'->P (.returned (.string (txt ans))) w'):=hP0;clear hP0;obtain⟨lp,rfl,rfl,hpin⟩:=h.pin;obtain⟨gs,hgs⟩:=h.mem;obtain⟨ml,rfl,hraw⟩:=hgs.raw;have H:Hid (Ply 31 B G rs cs ms (.slice lp.ra rs.length lp.rc) (.slice lp.ca cs.length lp.cc) (.slice ml.ma ms.length ml.mc) w):=h;have b0:w.cell? ⟨G,0,none⟩=some (.slice lp.ra rs.length lp.rc):=h.blk.cell rfl;clear hpin hgs hraw;obtain⟨ra,Hra⟩:∃z,Hid (lp.ra=z):=⟨_,rfl⟩;obtain⟨rc,Hrc⟩:∃z,Hid (lp.rc=z):=⟨_,rfl⟩;obtain⟨rl,Hrl⟩:∃z,Hid (rs.length=z):=⟨_,rfl⟩;obtain⟨ma,Hma⟩:∃z,Hid (ml.ma=z):=⟨_,rfl⟩;obtain⟨mc,Hmc⟩:∃z,Hid (ml.mc=z):=⟨_,rfl⟩;obtain⟨mn,Hmn⟩:∃z,Hid (ms.length=z):=⟨_,rfl⟩;obtain⟨cv,Hcv⟩:∃z,Hid (Value.slice lp.ca cs.length lp.cc=z):=⟨_,rfl⟩;rw[Hra.out,Hrc.out,Hrl.out]at H b0;rw[Hma.out,Hmc.out,Hmn.out]at H;rw[Hcv.out]at H HP;rw[Hmn.out]at hm;clear h;have Hxy:Hid (w.cell? ⟨sb,so,none⟩=some (V x)/\w.cell? ⟨sb,so+1,none⟩=some (V y)/\OfType w (some sb) 2):=⟨hx,hy,hbs⟩;by_cases hbad:J9n rs x y
 ·obtain⟨x0,x6,y0,y1,r6⟩:=hbad
  have HG:Hid (∀rs' ms' ans rv' mv' w',rs'=rs++[(x,decide (y=1))]->ms'=ms++[List.replicate (2 ^ x.toNat) 0]->ans=ansL okW [(rl:Int)+1]->Ply 31 B G rs' cs ms' rv' cv mv' w'->Below G w w'->P (.returned (.string (txt ans))) w'):=fun rs' ms' ans rv' mv' w' e1 e2 e3=>HP.out rs' ms' ans rv' mv' w' (.inr ⟨⟨x0,x6,y0,y1,r6⟩,e1,e2,by rw[Hrl.out];exact e3⟩)
  rw[Hrl.out]at r6;have d1:decide (x < 0)=false:=by simp;omega
  have d2:decide (6 < x)=false:=by simp;omega
  have d3:decide (y < 0)=false:=by simp;omega
  have d4:decide (1 < y)=false:=by simp;omega
  have d5:decide ((6:Int)<=(rl:Int))=false:=by simp;omega
  clear HP;go_enter Tryz.func9,Tryz.ntmps9;obtain⟨xn,rfl⟩:=Int.eq_ofNat_of_zero_le x0;have hx6:xn<=6:=by omega
  go_wp2_with (fail)
  go_loopg [5,6] xn (fun g wv iv wr=>∃(k:Nat) (u:Int),k+g=xn/\wv=V u/\iv=V k/\Hid (wr=w/\u=2 ^ k))
  case atStart=>exact⟨0,1,by omega,rfl,rfl,rfl,rfl⟩
  case round=>
   obtain⟨k,u,hkg,rfl,rfl,Hr⟩:=hrel;obtain⟨hwr,hu⟩:=Hr.out;subst hwr;have hk63:wrap64 ((k:Int)+1)=(k:Int)+1:=by unfold wrap64;omega
   cases gk with
   | succ g=>
    have hk:(k:Int) < (xn:Int):=by omega
    have hu6:u=1\/u=2\/u=4\/u=8\/u=16\/u=32:=by
     have:k=0\/k=1\/k=2\/k=3\/k=4\/k=5:=by omega
     rcases this with rfl | rfl | rfl | rfl | rfl | rfl<;>simp[hu]
    have w1:wrap64 (u+u)=u+u:=by unfold wrap64;omega
    have Hn:Hid (wr=wr/\u+u=2 ^ (k+1)):=⟨rfl,by rw[hu,Int.pow_succ];omega⟩;clear hu hu6 HG b0;go_wp2;go_roundg g
    case measure=>omega
    case rel=>exact⟨k+1,_,by omega,rfl,by first | rfl | simp[hk63],rfl,Hn.out.2⟩
   | zero=>
    obtain rfl:k=xn:=by omega
    have hk:decide ((k:Int) < (k:Int))=false:=by simp
    obtain⟨nw,rfl⟩:∃nw:Nat,u=nw:=⟨2 ^ k,by rw[hu];norm_cast⟩;have hnw0:nw=2 ^ k:=by exact_mod_cast hu
    have hnw1:1<=nw/\nw<=64:=by
     have:k=0\/k=1\/k=2\/k=3\/k=4\/k=5\/k=6:=by omega
     rcases this with rfl | rfl | rfl | rfl | rfl | rfl | rfl<;>simp[hnw0]
    have Hnw:Hid (nw=2 ^ k/\1<=nw/\nw<=64):=⟨hnw0,hnw1⟩;clear hu hnw0 hnw1;obtain⟨j0,hj1,hj2,hj3,hj4⟩:=info_parts Jmu;have Hj:Hid (Tryz.prog.info? 76=some j0/\j0.zero=some (.agg #[V 0,.bool false])/\j0.size=2/\j0.bytes=16):=⟨hj1,hj2,hj3,hj4⟩;clear hj1 hj2 hj3 hj4;obtain⟨S,HS⟩:∃S:World->Prop,Hid (∀w',S w'↔(w'.cell? ⟨G,0,none⟩=some (.slice ra rl rc)/\w'.cell? ⟨sb,so,none⟩=some (V k)/\w'.cell? ⟨sb,so+1,none⟩=some (V y))):=⟨_,fun _=>Iff.rfl⟩;have k0:∀i:{ w' // S w' },i.val.cell? ⟨G,0,none⟩=some (.slice ra rl rc):=fun i=>((HS.out _).1 i.property).1
    have k1:∀i:{ w' // S w' },i.val.cell? ⟨sb,so,none⟩=some (V k):=fun i=>((HS.out _).1 i.property).2.1
    have k2:∀i:{ w' // S w' },i.val.cell? ⟨sb,so+1,none⟩=some (V y):=fun i=>((HS.out _).1 i.property).2.2
    have hS:S wr.drew:=(HS.out _).2 ⟨b0,hx,hy⟩;have hne:Nonempty { w' // S w' }:=⟨⟨_,hS⟩⟩;obtain⟨yb,Hyb⟩:∃yb:Bool,Hid (decide (y=1)=yb/\(y==1)=yb):=⟨decide (y=1),rfl,rfl⟩;have hyb:(y==1)=yb:=Hyb.out.2;obtain⟨W2,HW2⟩:∃w_:World,Hid (w_=(wr.alloc (.cells #[V k,.bool yb] 76)).drew):=⟨_,rfl⟩;have Hm4:Hid (More wr W2):=HW2.out▸((More.refl _).alloc _ _).drew;have HQ:Hid (Ply 31 B G rs cs ms (.slice ra rl rc) cv (.slice ma mn mc) W2):=H.out.more Hm4.out
    have Hown:Hid (W2.ownsRow B 76 2 (.slice ra rl rc) rl (celR rs)):=by
     have:=HQ.out.ownR;rw[Hrl.out]at this;exact this
    have Hnews:Hid (∀i u,(celR [((k:Int),yb)])[i]?=some u->W2.cell? ((⟨wr.heap.size,0,none⟩:Addr).add i)=some u):=by
     have hb:Blk W2 wr.heap.size #[V k,.bool yb] 76:=by
      rw[HW2.out];exact(Blk.last wr #[V k,.bool yb] 76).drew
     exact fun i u hu=>World.news_of_block hb i u hu
    have Hsz:Hid (B<=W2.heap.size):=by have:=HQ.out.blk.lt;have:=HQ.out.lo;show _<=_;omega
    go_wp2_with (fail)
    refine J1m (S:=S) [16,17] [(0,true),(1,true),(2,true),(3,true),(4,true),(5,true),(6,true),(7,true),(8,true),(9,true),(10,true),(11,true),(12,true),(13,true),(14,false),(15,false),(16,true),(17,true),(18,true),(19,false)] (by kernel_rfl) (by kernel_rfl) (by kernel_rfl) hS ?_
    iterate 14 (refine J13 rfl (by kernel_rfl) (by kernel_rfl) (fun K hK=>?_);go_simp;refine hK _ _ ?_;clear hK K)
    clear k0 k1 k2;refine J0x rfl (by kernel_rfl) (fun K hK=>?_)
    go_simp
    refine hK _ _ ((HS.out _).2 ⟨((More.refl wr).alloc _ _).drew.cell b0,((More.refl wr).alloc _ _).drew.cell hx,((More.refl wr).alloc _ _).drew.cell hy⟩) ?_;clear hK K;rw[<-HW2.out];refine J0x rfl (by kernel_rfl) (fun K hK=>?_);refine wp_append_lies _ (.tmp 53) (.tmp 62) 25 rfl B 76 j0 (.agg #[V 0,.bool false]) 2 16 Tryz.underlying25 Hj.out.1 Hj.out.2.1 Hj.out.2.2.1 Hj.out.2.2.2 rfl (by decide) (.slice ra rl rc) rl (celR rs) rfl Hown.out ⟨wr.heap.size,0,none⟩ 1 1 (celR [((k:Int),yb)]) rfl (by rw[J35];rfl) Hnews.out (Jal _) (by decide) (by unfold maxLen;omega) (by omega) Hsz.out _ rfl ?_;intro g3 cap3 w5 own3 gr3 hat3 hlt3;have hty:=J1u Hown.out;have B3:Blk w5 G #[.slice ra rl rc,cv,.slice ma mn mc] 31:=HQ.out.blk.keptT gr3 hty (by decide);have y1:=B3.cell (j:=0) rfl;have y2:=B3.frozen 0
    have hxy:∀o v,wr.cell? ⟨sb,o,none⟩=some v->w5.cell? ⟨sb,o,none⟩=some v:=fun o v hc=>gr3.cell (Hm4.out.cell hc) (fun e=>by
     obtain⟨c1,f1,q1⟩:=hty sb e.symm;obtain⟨c2,f2,q2⟩:=Hxy.out.2.2 sb rfl;have hl:=J0q hc;rw[Hm4.out.block sb hl,q2]at q1;have:=Option.some.inj q1
     injection this with _ q _
     revert q;decide)
    have Hr3:Hid (Ply 31 B G (rs++[((k:Int),yb)]) cs ms (.slice (some ⟨g3,0,none⟩) (rl+1) cap3) cv (.slice ma mn mc) (w5.setCell ⟨G,0,none⟩ (.slice (some ⟨g3,0,none⟩) (rl+1) cap3))):=HQ.out.addR gr3 (by rw[Hrl.out];exact own3);have Hb5:Hid (Below G wr (w5.setCell ⟨G,0,none⟩ (.slice (some ⟨g3,0,none⟩) (rl+1) cap3))):=HQ.out.below (Below.mono Hm4.out (Nat.le_of_lt H.out.blk.lt)) gr3 (fun k e=>(Hown.out.lt k e).1) _ _;refine hK _ _ ((HS.out _).2 ⟨y1,hxy _ _ hx,hxy _ _ hy⟩) ?_;clear hK K own3 gr3 hat3 hlt3 hty hxy;have hnw:Nonempty World:=⟨wr⟩
    iterate 2 (refine J3d rfl (by kernel_rfl) (fun K hK=>?_);go_simp;refine hK _ _ ?_;clear hK K)
    clear hnw;refine J13 rfl (by kernel_rfl) (by kernel_rfl) (fun K hK=>?_);go_simp;refine hK _ _ ?_;clear hK K;refine J2q rfl (by kernel_rfl) (by kernel_rfl) (fun K hK=>?_)
    go_simp
    refine hK _ _ ?_;clear hK K hne hS;refine NoPanic.normal ?_;obtain⟨w6,Hw6⟩:∃w_,Hid (w_=w5.setCell ⟨G,0,none⟩ (.slice (some ⟨g3,0,none⟩) (rl+1) cap3)):=⟨_,rfl⟩;rw[<-Hw6.out]at Hr3 Hb5 |-;clear y1 y2 B3 b0 hx hy;obtain⟨gs2,hgs2⟩:=Hr3.out.mem;have Hgs2:Hid (Words B gs2 ms (.slice ma mn mc) w6):=hgs2;clear hgs2;obtain⟨i0,hi1,hi2,hi3,hi4⟩:=info_parts Jmt;have Hi:Hid (Tryz.prog.info? 35=some i0/\i0.zero=some (.slice none 0 0)/\i0.size=1/\i0.bytes=24):=⟨hi1,hi2,hi3,hi4⟩;clear hi1 hi2 hi3 hi4;have hmk:=run_make_row' (P:=Tryz.prog) 35 2 (V 0) 8 Tryz.underlying35 info2 rfl .i64 .i64 nw (by have:=Hnw.out;omega) (by have:=Hnw.out;omega);have c2:w6.cell? ⟨G,2,none⟩=some (.slice ma mn mc):=Hr3.out.blk.cell rfl;obtain⟨S,HS⟩:∃S:World->Prop,Hid (∀w',S w'↔w'.cell? ⟨G,2,none⟩=some (.slice ma mn mc)):=⟨_,fun _=>Iff.rfl⟩;have k0:∀i:{ w' // S w' },i.val.cell? ⟨G,2,none⟩=some (.slice ma mn mc):=fun i=>(HS.out _).1 i.property
    have hS:S w6.drew:=(HS.out _).2 c2;have hne:Nonempty { w' // S w' }:=⟨⟨_,hS⟩⟩;obtain⟨W8,HW8⟩:∃w_:World,Hid (w_=((w6.alloc (.cells (madeCells #[V 0] nw) 2)).alloc (.cells #[.slice (some ⟨w6.heap.size,0,none⟩) nw nw] 35)).drew):=⟨_,rfl⟩;have Hm8:Hid (More w6 W8):=HW8.out▸(((More.refl _).alloc _ _).alloc _ _).drew
    have Hb8:Hid (Blk W8 w6.heap.size (J2l (List.replicate nw 0)) 2):=by
     have q:Blk W8 w6.heap.size (madeCells #[V 0] nw) 2:=HW8.out▸((Blk.last w6 _ _).alloc _ _).drew;rw[Ja1]at q;exact q
    have Hnews8:Hid (∀i u,[Value.slice (some ⟨w6.heap.size,0,none⟩) nw nw][i]?=some u->W8.cell? ((⟨w6.heap.size+1,0,none⟩:Addr).add i)=some u):=by
     have hb:Blk W8 (w6.heap.size+1) #[.slice (some ⟨w6.heap.size,0,none⟩) nw nw] 35:=by
      rw[HW8.out];have:=Blk.last (w6.alloc (.cells (madeCells #[V 0] nw) 2)) #[.slice (some ⟨w6.heap.size,0,none⟩) nw nw] 35;rw[show(w6.alloc (.cells (madeCells #[V 0] nw) 2)).heap.size=w6.heap.size+1 by simp]at this;exact this.drew
     exact fun i u hu=>World.news_of_block hb i u hu
    have Hown8:Hid (W8.ownsRow B 35 1 (.slice ma mn mc) mn (rowsV gs2 ms)):=by
     have:=(Hgs2.out.more Hm8.out).own;rw[Hmn.out]at this;exact this
    have Hsz8:Hid (B<=W8.heap.size):=by have:=(Hr3.out.more Hm8.out).blk.lt;have:=Hr3.out.lo;show _<=_;omega
    have hz6:=Hr3.out.blk.lt;go_wp2_with (fail)
    refine J1m (S:=S) [9] [(0,true),(1,true),(2,true),(3,true),(4,true),(5,true),(6,false),(7,false),(8,false),(9,true),(10,true),(11,false)] (by kernel_rfl) (by kernel_rfl) (by kernel_rfl) hS ?_
    iterate 6 (refine J13 rfl (by kernel_rfl) (by kernel_rfl) (fun K hK=>?_);go_simp;refine hK _ _ ?_;clear hK K)
    clear k0;refine J0x rfl (by kernel_rfl) (fun K hK=>?_)
    go_simp
    refine hK _ _ ((HS.out _).2 (((More.refl w6).alloc _ _).drew.cell c2)) ?_;clear hK K hmk;refine J0x rfl (by kernel_rfl) (fun K hK=>?_)
    go_simp
    rw[<-HW8.out];refine hK _ _ ((HS.out _).2 (Hm8.out.cell c2)) ?_;clear hK K;refine J0x rfl (by kernel_rfl) (fun K hK=>?_);refine wp_append_lies _ (.tmp 71) (.tmp 74) 29 rfl B 35 i0 (.slice none 0 0) 1 24 Tryz.underlying29 Hi.out.1 Hi.out.2.1 Hi.out.2.2.1 Hi.out.2.2.2 rfl (by decide) (.slice ma mn mc) mn (rowsV gs2 ms) rfl Hown8.out ⟨w6.heap.size+1,0,none⟩ 1 1 [.slice (some ⟨w6.heap.size,0,none⟩) nw nw] rfl rfl Hnews8.out (fun u hu=>by simp at hu;subst hu;rfl) (by decide) (by unfold maxLen;omega) (by omega) Hsz8.out _ rfl ?_;intro g4 cap4 w9 own4 gr4 hat4 hlt4;have B4:Blk w9 G #[.slice (some ⟨g3,0,none⟩) (rl+1) cap3,cv,.slice ma mn mc] 31:=(Hr3.out.more Hm8.out).blk.keptT gr4 (J1u Hown8.out) (by decide);have y1:=B4.cell (j:=2) rfl;have y2:=B4.frozen 2;have Hr4:Hid (Ply 31 B G (rs++[((k:Int),yb)]) cs (ms++[List.replicate nw 0]) (.slice (some ⟨g3,0,none⟩) (rl+1) cap3) cv (.slice (some ⟨g4,0,none⟩) (mn+1) cap4) (w9.setCell ⟨G,2,none⟩ (.slice (some ⟨g4,0,none⟩) (mn+1) cap4))):=Hr3.out.addM Hgs2.out Hb8.out (Nat.le_refl _) Hm8.out gr4 (by rw[Hmn.out,List.length_replicate];exact own4);have Hb9:Hid (Below G wr (w9.setCell ⟨G,2,none⟩ (.slice (some ⟨g4,0,none⟩) (mn+1) cap4))):=(Hr3.out.more Hm8.out).below (Hb5.out.trans (Below.mono Hm8.out (Nat.le_of_lt hz6))) gr4 (fun k e=>(Hown8.out.lt k e).1) _ _;refine hK _ _ ((HS.out _).2 y1) ?_;clear hK K own4 gr4 hat4 hlt4
    have hnw:Nonempty World:=⟨wr⟩;refine J3d rfl (by kernel_rfl) (fun K hK=>?_);go_simp;refine hK _ _ ?_;clear hK K;clear hnw;refine J13 rfl (by kernel_rfl) (by kernel_rfl) (fun K hK=>?_);go_simp;refine hK _ _ ?_;clear hK K;refine J2q rfl (by kernel_rfl) (by kernel_rfl) (fun K hK=>?_)
    go_simp
    refine hK _ _ ?_;clear hK K hne hS;refine NoPanic.normal ?_;obtain⟨w10,Hw10⟩:∃w_,Hid (w_=w9.setCell ⟨G,2,none⟩ (.slice (some ⟨g4,0,none⟩) (mn+1) cap4)):=⟨_,rfl⟩;rw[<-Hw10.out]at Hr4 Hb9 |-;clear y1 y2 B4 c2 hz6;have e0:w10.cell? ⟨G,0,none⟩=some (.slice (some ⟨g3,0,none⟩) (rl+1) cap3):=Hr4.out.blk.cell rfl;have CD:Hid (∀(w1:World) (b:Nat) (T:TypeId),Blk w1 b #[V ((rl:Int)+1)] T->Calls Tryz.prog 10 #[.string ⟨#[111,107]⟩,.slice (some ⟨b,0,none⟩) 1 1] w1 fun e w'=>e=.returned (.string (txt (ansL okW [(rl:Int)+1])))/\More w1 w'):=fun w1 b T h=>J8w okW _ w1 b T (by decide) (by unfold B64;omega) h
    have HE:Hid (∀w',More w10 w'->P (.returned (.string (txt (ansL okW [(rl:Int)+1])))) w'):=fun w' mm=>HG.out _ _ _ _ _ w' rfl rfl rfl (by have h1:=Hr4.out.more mm;rw[<-Hyb.out.1,Hnw.out.1]at h1;exact h1) (Hb9.out.trans (Below.mono mm (Nat.le_of_lt Hr4.out.blk.lt)))
    obtain⟨R,HR⟩:∃R,Hid (txt (ansL okW [(rl:Int)+1])=R):=⟨_,rfl⟩;rw[HR.out]at CD HE;clear HG HR;go_wp2_with (fail)
    have hb:=Blk.last w10 #[V ((rl:Int)+1)] 2;refine(CD.out _ _ _ hb).mono ?_;rintro e w11 ⟨rfl,m11⟩;have Hend:Hid (P (.returned (.string R)) w11):=HE.out w11 (((More.refl _).alloc _ _).trans m11);clear m11 HE;go_wp2;exact Hend.out
 ·have HE:Hid (P (.returned (.string (txt [63]))) w):=HP.out rs ms [63] _ _ w (.inl ⟨hbad,rfl,rfl,rfl⟩) H.out (Below.refl _ _)
  have hc:decide (x < 0)=true\/(decide (x < 0)=false/\decide (6 < x)=true)\/(decide (x < 0)=false/\decide (6 < x)=false/\decide (y < 0)=true)\/(decide (x < 0)=false/\decide (6 < x)=false/\decide (y < 0)=false/\decide (1 < y)=true)\/(decide (x < 0)=false/\decide (6 < x)=false/\decide (y < 0)=false/\decide (1 < y)=false/\decide ((6:Int)<=(rl:Int))=true):=by
   unfold J9n at hbad;rw[Hrl.out]at hbad
   simp
   omega
  clear HP hbad;rcases hc with d1 | ⟨d1,d2⟩ | ⟨d1,d2,d3⟩ | ⟨d1,d2,d3,d4⟩ | ⟨d1,d2,d3,d4,d5⟩
  all_goals
   go_enter Tryz.func9,Tryz.ntmps9;go_wp2;exact HE.out
theorem Jnm(s:KS)(j:Nat)(h:j < 8):(kv s).extract (j*2) (j*2+2)=#[V (s j).b,.bool (s j).s]:=by
 have hk:=kv_at s j h;have hz:=J0d s;apply Array.ext_getElem?;intro i;rw[Array.getElem?_extract];by_cases e:i < 2
 ·rw[if_pos (by omega)]
  by_cases e0:i=0
  ·subst e0;rw[Nat.add_zero,hk.1];rfl
  ·obtain rfl:i=1:=by omega
   rw[hk.2];rfl
 ·rw[if_neg (by omega)]
  simp
  omega

theorem Jds:Tryz.prog.cellsOf 137=2:=by kernel_rfl
theorem Jim:∃i,Tryz.prog.info? 137=some i/\i.size=2:=by
 have h:(Tryz.prog.info? 137).map (·.size)=some 2:=by kernel_rfl
 obtain⟨i,h1,h2⟩:=Option.map_eq_some_iff.1 h;exact⟨i,h1,h2⟩

theorem Jn0(s:KS)(j:Nat)(h:j < 8)(w:World):(part 137 (kv s) (j*2)).run Tryz.prog w=.ok (.agg #[V (s j).b,.bool (s j).s]) w:=by
 obtain⟨i,hi,hs⟩:=Jim;have hsz:(sizeOf 137).run Tryz.prog w=.ok 2 w:=by rw[run_sizeOf w hi,Jds]
 unfold part
 have hag:(isAgg 137).run Tryz.prog w=.ok true w:=by
  unfold isAgg;rw[Sem.run_bind,run_underlying Tryz.underlying137 w]
  rfl
 simp only[Sem.run_bind,hag,Result.andThen_ok,if_true,hsz,Sem.run_pure];rw[Jnm s j h]

theorem eq23(d:Nat)(x y:Int)(s t:Bool)(w:World):(Op.equalIn (d+2) 137 (.agg #[V x,.bool s]) (.agg #[V y,.bool t])).run Tryz.prog w=.ok (x==y&&s==t) w:=by
 cases hx:(x==y) with
 | false=>go_simp
 | true=>
  go_simp
  cases s<;>cases t<;>rfl

theorem eqItems(d:Nat)(s t:KS)(w:World):∀is:List Nat,(∀j ∈ is,j < 8)->∃r:Bool,(Op.eqItems (d+2) 137 2 (kv s) (kv t) is).run Tryz.prog w=.ok r w/\(r=true↔∀j ∈ is,s j=t j)
 | [],_=>⟨true,by simp[Op.eqItems],by simp⟩
 | i::is,h=>by
  have hi:=h i (by simp);obtain⟨r,hr,hiff⟩:=eqItems d s t w is (fun j hj=>h j (by simp[hj]));simp only[Op.eqItems,Sem.run_bind,Jn0 s i hi,Jn0 t i hi,eq23,Result.andThen_ok];cases hb:((s i).b==(t i).b&&(s i).s==(t i).s) with
  | false=>
   refine⟨false,by simp,by simp;intro e;rw[e]at hb;simp at hb⟩
  | true=>
   refine⟨r,by simpa using hr,?_⟩;rw[hiff];rw[Bool.and_eq_true,beq_iff_eq,beq_iff_eq]at hb
   have e:s i=t i:=by
    cases hs:s i;cases ht:t i
    rw[hs,ht]at hb;simp only[Kn.mk.injEq];exact hb
   simp[e]

theorem eq104(s t:KS):∃r:Bool,(∀w,(Op.equalIn 10000 139 (.agg (kv s)) (.agg (kv t))).run Tryz.prog w=.ok r w)/\(r=true↔∀j,j < 8->s j=t j):=by
 obtain⟨i,hi,_⟩:=Jim;by_cases h:∀j,j < 8->s j=t j
 ·refine⟨true,fun w=>?_,⟨fun _=>h,fun _=>rfl⟩⟩
  rw[run_equalIn_array w 9999 (kv s) (kv t) Tryz.underlying139 hi,Jds];obtain⟨r,hr,hiff⟩:=eqItems 9997 s t w (List.range 8) (fun j hj=>List.mem_range.1 hj);rw[hr];rw[hiff.2 (fun j hj=>h j (List.mem_range.1 hj))]
 ·refine⟨false,fun w=>?_,⟨fun q=>absurd q (by simp),fun q=>absurd q h⟩⟩
  rw[run_equalIn_array w 9999 (kv s) (kv t) Tryz.underlying139 hi,Jds];obtain⟨r,hr,hiff⟩:=eqItems 9997 s t w (List.range 8) (fun j hj=>List.mem_range.1 hj);rw[hr];cases r with
  | false=>rfl
  | true=>exact absurd (fun j hj=>hiff.1 rfl j (List.mem_range.2 hj)) h

theorem Jmk:(Tryz.prog.info? 141).map (fun i=>i.zero.map (fun z=>z.cells.size))=some (some 17):=by kernel_rfl
theorem Jjc:(J55 Tryz.prog 141).mapM (fun f=>(Tryz.prog.info? f.type).map fun i=>(f.offset,i.size))=some [(0,16),(16,1)]:=by kernel_rfl
theorem Je9:(Tryz.prog.info? 141).map (·.size)=some 17:=by kernel_rfl

theorem Jfh(A:Array Value)(hA:A.size=16):Tryz.prog.built 141 [(0,.agg A),(1,.bool true)]=some (A.push (.bool true)):=by
 have hz:=Jmk;cases hi:Tryz.prog.info? 141 with
 | none=>rw[hi]at hz;simp at hz
 | some it=>
  rw[hi]at hz;simp only[Option.map_some,Option.some.injEq]at hz;cases hzz:it.zero with
  | none=>rw[hzz]at hz;simp at hz
  | some z=>
   rw[hzz]at hz;simp only[Option.map_some,Option.some.injEq]at hz;have hp:=Jjc;unfold J55 at hp;rw[Tryz.underlying141]at hp;rw[J4h hi Tryz.underlying141 hzz hp];obtain⟨c1,e1,s1,g1⟩:=J37 (fun x=>[(0,16),(16,1)].toArray[x]?) z.cells 0 (.agg A) [(1,.bool true)] 0 16 rfl hA (by omega);obtain⟨c2,e2,s2,g2⟩:=J37 (fun x=>[(0,16),(16,1)].toArray[x]?) c1 1 (.bool true) [] 16 1 rfl rfl (by omega);rw[e1,e2];show some c2=_;refine congrArg some ?_;apply Array.ext_getElem?;intro j;rw[g2 j,g1 j,Array.getElem?_push,hA];by_cases e:j=16
   ·subst e;rfl
   ·rw[if_neg (by omega),if_neg e]
    by_cases e3:j < 16
    ·rw[if_pos (by omega)];rfl
    ·rw[if_neg (by omega),Array.getElem?_eq_none (by omega),Array.getElem?_eq_none (by omega)]
theorem Jmw:∃i,Tryz.prog.info? 3=some i/\i.zero=some (V 0)/\i.size=1/\i.bytes=8:=by
 have h:(Tryz.prog.info? 3).map (fun i=>(i.zero,i.size,i.bytes))=some (some (V 0),1,8):=by kernel_rfl
 obtain⟨i,h1,h2⟩:=Option.map_eq_some_iff.1 h;simp only[Prod.mk.injEq]at h2;exact⟨i,h1,h2.1,h2.2.1,h2.2.2⟩
theorem Ck.tform{w0:World}{p:Prg}{lo:Loc}{M B:Nat}{l:KV}{td:List Nat}{tv:Value}{w:World}(h:Ck w0 p lo M B l td tv w):∃ta tc,tv=.slice ta td.length tc:=by
 rcases h.own.2 with⟨rfl,h0⟩ | ⟨g,cap,cur,rfl,_⟩
 ·exact⟨none,0,by rw[h0]⟩
 ·exact⟨_,_,rfl⟩
theorem J3c{P:Program}{ops:Array Oper}{rest:List Oper}{o:Oper}{a:Act}{w:World}{Q:Exit->Act->World->Prop}(hgd:o.guard=none)(ty:TypeId)(x y:Operand)(ho:o.op=.store ty x y)
  (g k:Nat) (cs:Array Value) (hx:a.eval x=.pointer (some ⟨g,k,none⟩)) (hy:a.eval y=.agg cs) (hi:(P.info? ty).map (·.size)=some cs.size) (hc:∀j,j < cs.size->(w.cell? ⟨g,k+j,none⟩).isSome=true/\w.frozen? ⟨g,k+j,none⟩=false) (h1:cs.all (·.oneCell')=true)
  (w':World) (hw:w'=w.setCells g k cs.toList) (h:wpList P ops Q rest (a.put o.dst undef) w'):wpList P ops Q (o::rest) a w:=by
 subst hw;exact J3x hgd ty x y ho g k cs hx hy hi hc h1 h

theorem J51{P:Program}{ops:Array Oper}{rest:List Oper}{o:Oper}{a:Act}{w:World}{Q:Exit->Act->World->Prop}(hgd:o.guard=none)(t:TypeId)(parts:Array (Nat × Operand))(ho:o.op=.build t parts)(C:Array Value)(l:List (Nat × Value))(hl:(parts.map fun(i,x)=>(i,a.eval x)).toList=l)
  (hf:P.built t l=some C) (h:wpList P ops Q rest (a.put o.dst (.agg C)) w):wpList P ops Q (o::rest) a w:=by
 subst hl;refine wpList_plain hgd fun _ hK=>?_
 unfold Oper.wp execOp;simp only[ho,Sem.run_bind,run_build w t _ C hf,Result.andThen_ok,Sem.run_pure];exact hK _ _ h

section
variable (w0:World) (p:Prg) (lo:Loc) (M B:Nat) (l:KV) (td:List Nat) (tv:Value) (w:World)

theorem Jka(h:Ck w0 p lo M B l td tv w)(at_:Nat)(s:KS)(hat:p.cl<=at_):
  Calls Tryz.prog 75 #[.pointer (some ⟨M,0,none⟩),V at_,.agg (kv s)] w fun e w'=>e=.returned (.tuple #[])/\More w w':=by
 have m2:=h.box.cell (j:=2) rfl;have hM:=h.box.lt;obtain⟨cl,hcl⟩:∃x,p.cl=x:=⟨_,rfl⟩;rw[hcl]at m2 hat;have hi:((cl:Int)<=at_):=by omega
 obtain⟨C,hC⟩:∃c,kv s=c:=⟨_,rfl⟩;have hC16:C.size=16:=hC▸J0d s;rw[hC];clear h hC hcl hat;go_enter Tryz.func75,Tryz.ntmps75;go_wp2;refine bodyPost_ret (results_none (by kernel_rfl) _ _ _) rfl ?_;exact⟨rfl,(More.refl _).alloc _ _⟩

theorem World.size_alloc2(w:World)(o:Obj):(w.alloc o).heap.size=w.heap.size+1:=by simp
theorem Ck.boxg{w0:World}{p:Prg}{lo:Loc}{M B:Nat}{l:KV}{td:List Nat}{tv:Value}{w w':World}(h:Ck w0 p lo M B l td tv w)(g:w.grownBy w' tv.ownBlock):
  Blk w' M #[.slice lo.ra p.rl lo.rc,.slice lo.ca p.cl lo.cc,.slice (some ⟨B,0,none⟩) p.cl p.cl,tv] 102:=(g.block M h.box.lt (fun e=>h.tne h.box (by decide) e.symm)).trans h.box

theorem Jk8(h:Ck w0 p lo M B l td tv w)(at_:Nat)(s:KS)(hat:at_ < p.cl)(hcl:p.cl<=200)(hn:td.length<=100000)(hl:l at_=none):
  Calls Tryz.prog 75 #[.pointer (some ⟨M,0,none⟩),V at_,.agg (kv s)] w fun e w'=>e=.returned (.tuple #[])/\∃tv',Ck w0 p lo M B (putV l at_ s) (td++[at_]) tv' w'/\Keeps w w':=by
 suffices hP:∀P:Ending->World->Prop,(∀tv' w',Ck w0 p lo M B (putV l at_ s) (td++[at_]) tv' w'->Keeps w w'->P (.returned (.tuple #[])) w')->Calls Tryz.prog 75 #[.pointer (some ⟨M,0,none⟩),V at_,.agg (kv s)] w P from hP _ (fun tv' w' a b=>⟨rfl,tv',a,b⟩)
 intro P hP0;have HP:Hid (∀tv' w',Ck w0 p lo M B (putV l at_ s) (td++[at_]) tv' w'->Keeps w w'->P (.returned (.tuple #[])) w'):=hP0;clear hP0;have HN0:Hid (td.length<=100000):=hn;obtain⟨ta,tc,rfl⟩:=h.tform;have m2:w.cell? ⟨M,2,none⟩=some (.slice (some ⟨B,0,none⟩) p.cl p.cl):=h.box.cell (j:=2) rfl;have hM:=h.box.lt;have hB:=h.pl.lt;have hre:=h.pl.reached hat;rw[hl]at hre;dsimp only[Option.isSome]at hre;obtain⟨W,HW⟩:∃W:World,Hid (W=w.alloc (.cells (kv s) 139)):=⟨_,rfl⟩;have HmW:Hid (More w W):=HW.out▸(More.refl _).alloc _ _;have HckW:Hid (Ck w0 p lo M B l td (.slice ta td.length tc) W):=h.more HmW.out;have HkpW:Hid (Keeps w W):=Keeps.of HmW.out;have HbW:Hid (Blk W w.heap.size (kv s) 139):=HW.out▸Blk.last _ _ _;obtain⟨W2,HW2⟩:∃W2:World,Hid (W2=W.setCells B (at_*17) (pv (some (s))).toList):=⟨_,rfl⟩;have Hck2:Hid (Ck w0 p lo M B (putV l at_ (s)) td (.slice ta td.length tc) W2):=HW2.out▸HckW.out.put hat (s);have Hkp2:Hid (Keeps w W2):=HkpW.out.trans (HW2.out▸HckW.out.put_keeps (s));obtain⟨W3,HW3⟩:∃W3:World,Hid (W3=W2.alloc (.cells #[V (at_:Int)] 3)):=⟨_,rfl⟩;have Hck3:Hid (Ck w0 p lo M B (putV l at_ (s)) td (.slice ta td.length tc) W3):=Hck2.out.more (HW3.out▸(More.refl _).alloc _ _);have Hkp3:Hid (Keeps w W3):=Hkp2.out.trans (Keeps.of (HW3.out▸(More.refl _).alloc _ _))
 have Hc3:Hid (∀j u,[Value.int .i64 (at_:Int)][j]?=some u->W3.cell? ((⟨W2.heap.size,0,none⟩:Addr).add j)=some u):=by
  rw[HW3.out];exact World.news_of_block (cs:=#[V (at_:Int)]) (heap_alloc_last _ _)
 have Hup:Hid (w0.heap.size<=W3.heap.size):=Hck3.out.up.size;have Hsz3:Hid (W3.heap.size=W2.heap.size+1):=by rw[HW3.out];exact(World.size_alloc2 _ _)
 have m3:W2.cell? ⟨M,3,none⟩=some (.slice ta td.length tc):=Hck2.out.box.cell (j:=3) rfl;obtain⟨i3,Hi3⟩:∃i,Hid (Tryz.prog.info? 3=some i/\i.zero=some (V 0)/\i.size=1/\i.bytes=8):=Jmw;have Hn:Hid (td.length<=100000):=HN0.out;obtain⟨E_,hE_⟩:∃c,kv (s)=c:=⟨_,rfl⟩;have hE16:E_.size=16:=hE_▸J0d (s);have hpv:pv (some (s))=E_.push (.bool true):=by rw[<-hE_];rfl
 have hbx:=HbW.out;unfold Blk at hbx;rw[hE_]at hbx;have hi104:(Tryz.prog.info? 139).map (·.size)=some E_.size:=by rw[hE16];exact Je8
 have hbu:=Jfh E_ hE16;have hi107:(Tryz.prog.info? 141).map (·.size)=some (E_.push (.bool true)).size:=by rw[<-hpv,J3o];exact Je9
 have hfr:∀j,j < (E_.push (.bool true)).size->(W.cell? ⟨B,at_*17+j,none⟩).isSome=true/\W.frozen? ⟨B,at_*17+j,none⟩=false:=by
  rw[<-hpv,J3o];exact HckW.out.pl.free hat
 have hone:(E_.push (.bool true)).all (·.oneCell')=true:=by rw[<-hpv];exact Jjj _
 rw[hpv]at HW2;obtain⟨n,Hnn⟩:∃x,Hid (td.length=x):=⟨_,rfl⟩;rw[Hnn.out]at m3
 have Hown:Hid (W3.ownsRow w0.heap.size 3 1 (.slice ta n tc) n (td.map fun(k:Nat)=>Value.int .i64 (k:Int))):=by
  have:=Hck3.out.own;rw[Hnn.out]at this;exact this
 rw[hE_]at HW;rw[hE_];obtain⟨cl,Hcl⟩:∃x,Hid (p.cl=x):=⟨_,rfl⟩;rw[Hcl.out]at m2 hat hcl;have hi1:((at_:Int) < cl):=by omega
 have hi2:((cl:Int)<=200):=by omega
 clear h hE_ hpv hn hl;go_enter Tryz.func75,Tryz.ntmps75
 go_wp2_with (first
  | (at_builtin;rw[<-HW3.out];refine wpList_append_lies _ rfl (.tmp 44) (.tmp 46) 49 rfl w0.heap.size 3 i3 (V 0) 1 8 Tryz.underlying49 Hi3.out.1 Hi3.out.2.1 Hi3.out.2.2.1 Hi3.out.2.2.2 rfl (by decide) (.slice ta n tc) n (td.map fun(k:Nat)=>Value.int .i64 (k:Int)) rfl Hown.out ⟨W2.heap.size,0,none⟩ 1 1 [V at_] rfl rfl Hc3.out (fun x hx=>by simp at hx;subst hx;rfl) (by decide) (by have:=Hn.out;rw[Hnn.out]at this;unfold maxLen;omega) (by have:=Hn.out;rw[Hnn.out]at this;omega) Hup.out (W2.heap.size+1) Hsz3.out ?_;intro g cap w3 own3 gr3 hat3 hlt3;have y3:=(Hnn.out▸Hck3.out.boxg (Hnn.out▸gr3)).cell (j:=3) rfl;have f3:=(Hck3.out.boxg (Hnn.out▸gr3)).frozen 3)
  | (rw[<-HW.out];refine wpList_load_row rfl 139 (.tmp 5) rfl w.heap.size rfl 139 E_ (0,0) _ hbx Tryz.underlying139 rfl hi104 ?_)
  | (refine J51 rfl 141 _ rfl (E_.push (.bool true)) [(0,.agg E_),(1,.bool true)] (by kernel_rfl) hbu ?_)
  | (refine J3c rfl 141 (.tmp 39) (.tmp 38) rfl B (at_*17) (E_.push (.bool true)) rfl rfl hi107 hfr hone W2 HW2.out ?_))
 go_end0
 have own3':w3.ownsRow w0.heap.size 3 1 (.slice (some ⟨g,0,none⟩) (n+1) cap) (td++[at_]).length ((td++[at_]).map fun(k:Nat)=>Value.int .i64 (k:Int)):=by
  rw[List.length_append,Hnn.out,List.map_append];exact own3
 have gr3':W3.grownBy w3 (Value.slice ta td.length tc).ownBlock:=by rw[Hnn.out];exact gr3
 exact HP.out _ _ (Hck3.out.set gr3' own3') (Hkp3.out.trans (Hck3.out.set_keeps gr3'))

theorem Jk9(h:Ck w0 p lo M B l td tv w)(at_:Nat)(s t:KS)(hat:at_ < p.cl)(hcl:p.cl<=200)(hn:td.length<=100000)(hl:l at_=some t):
  Calls Tryz.prog 75 #[.pointer (some ⟨M,0,none⟩),V at_,.agg (kv s)] w fun e w'=>e=.returned (.tuple #[])/\Keeps w w'/\(((∀j,j < 8->Kn.join (t j) (s j)=t j)/\Ck w0 p lo M B l td tv w')\/((¬∀j,j < 8->Kn.join (t j) (s j)=t j)/\∃tv',Ck w0 p lo M B (putV l at_ (fun j=>Kn.join (t j) (s j))) (td++[at_]) tv' w')):=by
 obtain⟨r,hrj⟩:∃r:KS,(fun j=>Kn.join (t j) (s j))=r:=⟨_,rfl⟩;rw[hrj];have hrj':(∀j,j < 8->Kn.join (t j) (s j)=t j)↔∀j,j < 8->r j=t j:=by rw[<-hrj]
 rw[hrj'];clear hrj'
 suffices hP:∀P:Ending->World->Prop,(∀w',(∀j,j < 8->r j=t j)->Ck w0 p lo M B l td tv w'->Keeps w w'->P (.returned (.tuple #[])) w')->((¬∀j,j < 8->r j=t j)->∀tv' w',Ck w0 p lo M B (putV l at_ r) (td++[at_]) tv' w'->Keeps w w'->P (.returned (.tuple #[])) w')->Calls Tryz.prog 75 #[.pointer (some ⟨M,0,none⟩),V at_,.agg (kv s)] w P from
  hP _ (fun w' a b c=>⟨rfl,c,.inl ⟨a,b⟩⟩) (fun a tv' w' b c=>⟨rfl,c,.inr ⟨a,tv',b⟩⟩)
 intro P hP0 hP1;have HP0:Hid (∀w',(∀j,j < 8->r j=t j)->Ck w0 p lo M B l td tv w'->Keeps w w'->P (.returned (.tuple #[])) w'):=hP0;have HP1:Hid ((¬∀j,j < 8->r j=t j)->∀tv' w',Ck w0 p lo M B (putV l at_ r) (td++[at_]) tv' w'->Keeps w w'->P (.returned (.tuple #[])) w'):=hP1;clear hP0 hP1;have HN0:Hid (td.length<=100000):=hn;obtain⟨ta,tc,rfl⟩:=h.tform;have m2:w.cell? ⟨M,2,none⟩=some (.slice (some ⟨B,0,none⟩) p.cl p.cl):=h.box.cell (j:=2) rfl;have hM:=h.box.lt;have hB:=h.pl.lt;have hre:=h.pl.reached hat;have Hpl:Hid (∀w',Ck w0 p lo M B l td (.slice ta td.length tc) w'->∀j v,(kv t)[j]?=some v->w'.cell? ⟨B,at_*17+j,none⟩=some v):=fun w' k=>k.pl.regs hat hl
 rw[hl]at hre;dsimp only[Option.isSome]at hre;obtain⟨W,HW⟩:∃W:World,Hid (W=w.alloc (.cells (kv s) 139)):=⟨_,rfl⟩;have HmW:Hid (More w W):=HW.out▸(More.refl _).alloc _ _;have HckW0:Hid (Ck w0 p lo M B l td (.slice ta td.length tc) W):=h.more HmW.out;have HbW0:Hid (Blk W w.heap.size (kv s) 139):=HW.out▸Blk.last _ _ _;have c1:∀w:World,Calls Tryz.prog 105 #[.agg (kv t),.agg (kv s)] w fun e w'=>e=.returned (.agg (kv r))/\More w w':=fun w=>hrj▸Jci t s w
 obtain⟨q,hq,hqi⟩:=eq104 r t;have Hqi:Hid (q=true↔∀j,j < 8->r j=t j):=hqi;have Hks:Hid (∀w',Blk w' w.heap.size (kv s) 139->∀j v,(kv s)[j]?=some v->w'.cell? ⟨w.heap.size,0+j,none⟩=some v):=fun w' b j v e=>by rw[Nat.zero_add];exact b.cell e
 have Hkr:Hid (∀w',Blk w' w.heap.size (kv r) 139->∀j v,(kv r)[j]?=some v->w'.cell? ⟨w.heap.size,0+j,none⟩=some v):=fun w' b j v e=>by rw[Nat.zero_add];exact b.cell e
 have hiC:=J1b s;have hiD:=J1b t;have hiE:=J1b r;have hold:(kv s).size=(kv r).size:=by rw[J0d,J0d]
 have hone:(kv r).all (·.oneCell')=true:=J2w r;have hC16:(kv s).size=16:=J0d s;have Hat:Hid (at_ < p.cl):=hat;clear hqi h hl hn hrj;obtain⟨C,hC⟩:∃c,kv s=c:=⟨_,rfl⟩;obtain⟨D,hD⟩:∃c,kv t=c:=⟨_,rfl⟩;obtain⟨E,hE⟩:∃c,kv r=c:=⟨_,rfl⟩;have HE:Hid (kv r=E):=hE;rw[hC]at HW HbW0 c1 hiC hold Hks hC16;rw[hC];rw[hD]at c1 hq hiD Hpl;rw[hE]at c1 hq hiE hold hone Hkr;clear hC hD hE;obtain⟨cl,Hcl⟩:∃x,Hid (p.cl=x):=⟨_,rfl⟩;rw[Hcl.out]at m2 hat hcl;have hi1:((at_:Int) < cl):=by omega
 have hi2:((cl:Int)<=200):=by omega
 obtain⟨S,HS⟩:∃S:World->Prop,Hid (∀w',S w'↔More W w'):=⟨_,fun _=>Iff.rfl⟩;have HS0:S W.drew:=(HS.out _).2 (More.refl _).drew;have hne:Nonempty { w' // S w' }:=⟨⟨_,HS0⟩⟩;go_enter Tryz.func75,Tryz.ntmps75;go_wp2_with (fail)
 rw[<-HW.out];clear hC16;refine J0z (S:=S) [(0,true),(1,true),(2,true),(3,true),(4,true),(5,false),(6,false)] (by kernel_rfl) (by kernel_rfl) (by kernel_rfl) HS0 ?_
 iterate 3 (refine J0i rfl (by kernel_rfl) (fun K hK=>?_);go_simp;refine hK _ _ ?_;clear hK K)
 refine J0i rfl (by kernel_rfl) (fun K hK=>⟨.agg D,fun i=>J0y 139 (.tmp 26) rfl B (at_*17) rfl D _ (Hpl.out _ (HckW0.out.more ((HS.out _).1 i.property))) Tryz.underlying139 rfl hiD,?_⟩);go_simp;refine hK _ _ ?_;clear hK K;refine J0i rfl (by kernel_rfl) (fun K hK=>⟨.agg C,fun i=>J0y 139 (.tmp 5) rfl w.heap.size 0 rfl C _ (Hks.out _ (HbW0.out.more ((HS.out _).1 i.property))) Tryz.underlying139 rfl hiC,?_⟩);go_simp;refine hK _ _ ?_;clear hK K;refine J1z rfl (by kernel_rfl) (fun K hK=>?_);go_simp;refine(c1 _).mono ?_;rintro e w2 ⟨rfl,m_⟩;have Hm2:Hid (More W w2):=(More.refl W).drew.trans m_;clear m_
 go_simp
 refine hK _ _ ((HS.out _).2 Hm2.out) ?_;clear hK K;have Hb2:Hid (Blk w2 w.heap.size C 139):=HbW0.out.more Hm2.out;have Hck2_:Hid (Ck w0 p lo M B l td (.slice ta td.length tc) w2):=HckW0.out.more Hm2.out;obtain⟨wj,Hwj⟩:∃w_:World,Hid (w_=w2.setRow w.heap.size E):=⟨_,rfl⟩
 have HF:Hid (Blk wj w.heap.size E 139/\Ck w0 p lo M B l td (.slice ta td.length tc) wj/\Keeps w wj):=by
  rw[Hwj.out];have g:w2.grownBy (w2.setRow w.heap.size E) (some w.heap.size):=⟨rfl,rfl,rfl,by simp[World.setRow],fun k _ hk=>setRow_other _ _ _ _ (fun e=>hk (by rw[e]))⟩;obtain⟨cB,hB_⟩:=Hck2_.out.plB;refine⟨Hb2.out.setRow E,⟨Hck2_.out.box.setRow_other (fun e=>by omega) _,Hck2_.out.own.kept g (.inr (Hck2_.out.tne Hb2.out (by decide))),Hck2_.out.pl.block (setRow_other _ _ _ _ (by omega)),Hck2_.out.up.setRow (Nat.le_trans Hck2_.out.lo.1 (by omega)) _,Hck2_.out.pin,Hck2_.out.lo⟩,?_⟩;intro n_ c_ T_ t1 t2 t3 b_;have b2:=(b_.more HmW.out).more Hm2.out;exact b2.setRow_other (Nat.ne_of_lt b_.lt) _
 refine J20 rfl (by kernel_rfl) (by kernel_rfl) (fun K hK=>?_);refine wp_store_row 139 (.tmp 5) (.tmp 29) rfl w.heap.size E rfl rfl 139 C Hb2.out hiE hold hone ?_;rw[<-Hwj.out];refine hK _ _ ?_;clear hK K hne HS0;refine NoPanic.normal ?_;obtain⟨T,HT⟩:∃T:World->Prop,Hid (∀w',T w'↔More wj w'):=⟨_,fun _=>Iff.rfl⟩;have HT0:T wj.drew:=(HT.out _).2 (More.refl _).drew;have hne:Nonempty { w' // T w' }:=⟨⟨_,HT0⟩⟩;go_wp2_with (fail)
 refine J04 (S:=T) [(0,true),(1,true),(2,true),(3,true),(4,true),(5,true)] (by kernel_rfl) (by kernel_rfl) (by kernel_rfl) HT0 ?_;refine J00 rfl (by kernel_rfl) (fun K hK=>⟨.agg E,fun i=>J0y 139 (.tmp 5) rfl w.heap.size 0 rfl E _ (Hkr.out _ (HF.out.1.more ((HT.out _).1 i.property))) Tryz.underlying139 rfl hiE,?_⟩);go_simp;refine hK _ _ ?_;clear hK K
 iterate 3 (refine J00 rfl (by kernel_rfl) (fun K hK=>?_);go_simp;refine hK _ _ ?_;clear hK K)
 refine J00 rfl (by kernel_rfl) (fun K hK=>⟨.agg D,fun i=>J0y 139 (.tmp 33) rfl B (at_*17) rfl D _ (Hpl.out _ (HF.out.2.1.more ((HT.out _).1 i.property))) Tryz.underlying139 rfl hiD,?_⟩);go_simp;refine hK _ _ ?_;clear hK K;refine J00 rfl (by kernel_rfl) (fun K hK=>?_);go_simp;refine hK _ _ ?_;clear hK K;refine J06 ?_;clear hne HT0 hq c1;obtain⟨wd,Hwd⟩:∃w_:World,Hid (w_=wj.drew):=⟨_,rfl⟩
 have HG:Hid (Blk wd w.heap.size E 139/\Ck w0 p lo M B l td (.slice ta td.length tc) wd/\Keeps w wd):=by
  have m:=Hwd.out▸(More.refl wj).drew;exact⟨HF.out.1.more m,HF.out.2.1.more m,HF.out.2.2.trans (Keeps.of m)⟩
 rw[<-Hwd.out];cases q with
 | true=>
  have hend:=HP0.out wd (Hqi.out.1 rfl) HG.out.2.1 HG.out.2.2;have Hend:Hid (P (.returned (.tuple #[])) wd):=hend;clear hend HP0 HP1;go_wp2;refine bodyPost_ret (results_none (by kernel_rfl) _ _ _) rfl ?_;exact Hend.out
 | false=>
  have HP:Hid (∀tv' w',Ck w0 p lo M B (putV l at_ r) (td++[at_]) tv' w'->Keeps w w'->P (.returned (.tuple #[])) w'):=HP1.out (fun k=>by have:=Hqi.out.2 k;cases this);clear HP0 HP1 Hqi hold hone hiC hiD hiE Hks Hkr Hpl;have hat:=Hat.out;have HckW:Hid (Ck w0 p lo M B l td (.slice ta td.length tc) wd):=HG.out.2.1;have HkpW:Hid (Keeps w wd):=HG.out.2.2;have HbW:Hid (Blk wd w.heap.size (kv r) 139):=HE.out▸HG.out.1;obtain⟨W2,HW2⟩:∃W2:World,Hid (W2=wd.setCells B (at_*17) (pv (some (r))).toList):=⟨_,rfl⟩;have Hck2:Hid (Ck w0 p lo M B (putV l at_ (r)) td (.slice ta td.length tc) W2):=HW2.out▸HckW.out.put hat (r);have Hkp2:Hid (Keeps w W2):=HkpW.out.trans (HW2.out▸HckW.out.put_keeps (r));obtain⟨W3,HW3⟩:∃W3:World,Hid (W3=W2.alloc (.cells #[V (at_:Int)] 3)):=⟨_,rfl⟩;have Hck3:Hid (Ck w0 p lo M B (putV l at_ (r)) td (.slice ta td.length tc) W3):=Hck2.out.more (HW3.out▸(More.refl _).alloc _ _);have Hkp3:Hid (Keeps w W3):=Hkp2.out.trans (Keeps.of (HW3.out▸(More.refl _).alloc _ _))
  have Hc3:Hid (∀j u,[Value.int .i64 (at_:Int)][j]?=some u->W3.cell? ((⟨W2.heap.size,0,none⟩:Addr).add j)=some u):=by
   rw[HW3.out];exact World.news_of_block (cs:=#[V (at_:Int)]) (heap_alloc_last _ _)
  have Hup:Hid (w0.heap.size<=W3.heap.size):=Hck3.out.up.size;have Hsz3:Hid (W3.heap.size=W2.heap.size+1):=by rw[HW3.out];exact(World.size_alloc2 _ _)
  have m3:W2.cell? ⟨M,3,none⟩=some (.slice ta td.length tc):=Hck2.out.box.cell (j:=3) rfl;obtain⟨i3,Hi3⟩:∃i,Hid (Tryz.prog.info? 3=some i/\i.zero=some (V 0)/\i.size=1/\i.bytes=8):=Jmw;have Hn:Hid (td.length<=100000):=HN0.out;obtain⟨E_,hE_⟩:∃c,kv (r)=c:=⟨_,rfl⟩;have hE16:E_.size=16:=hE_▸J0d (r);have hpv:pv (some (r))=E_.push (.bool true):=by rw[<-hE_];rfl
  have hbx:=HbW.out;unfold Blk at hbx;rw[hE_]at hbx;have hi104:(Tryz.prog.info? 139).map (·.size)=some E_.size:=by rw[hE16];exact Je8
  have hbu:=Jfh E_ hE16;have hi107:(Tryz.prog.info? 141).map (·.size)=some (E_.push (.bool true)).size:=by rw[<-hpv,J3o];exact Je9
  have hfr:∀j,j < (E_.push (.bool true)).size->(wd.cell? ⟨B,at_*17+j,none⟩).isSome=true/\wd.frozen? ⟨B,at_*17+j,none⟩=false:=by
   rw[<-hpv,J3o];exact HckW.out.pl.free hat
  have hone:(E_.push (.bool true)).all (·.oneCell')=true:=by rw[<-hpv];exact Jjj _
  rw[hpv]at HW2;obtain⟨n,Hnn⟩:∃x,Hid (td.length=x):=⟨_,rfl⟩;rw[Hnn.out]at m3
  have Hown:Hid (W3.ownsRow w0.heap.size 3 1 (.slice ta n tc) n (td.map fun(k:Nat)=>Value.int .i64 (k:Int))):=by
   have:=Hck3.out.own;rw[Hnn.out]at this;exact this
  clear hat hE_ hpv
  go_wp2_with (first
   | (at_builtin;rw[<-HW3.out];refine wpList_append_lies _ rfl (.tmp 44) (.tmp 46) 49 rfl w0.heap.size 3 i3 (V 0) 1 8 Tryz.underlying49 Hi3.out.1 Hi3.out.2.1 Hi3.out.2.2.1 Hi3.out.2.2.2 rfl (by decide) (.slice ta n tc) n (td.map fun(k:Nat)=>Value.int .i64 (k:Int)) rfl Hown.out ⟨W2.heap.size,0,none⟩ 1 1 [V at_] rfl rfl Hc3.out (fun x hx=>by simp at hx;subst hx;rfl) (by decide) (by have:=Hn.out;rw[Hnn.out]at this;unfold maxLen;omega) (by have:=Hn.out;rw[Hnn.out]at this;omega) Hup.out (W2.heap.size+1) Hsz3.out ?_;intro g cap w3 own3 gr3 hat3 hlt3;have y3:=(Hnn.out▸Hck3.out.boxg (Hnn.out▸gr3)).cell (j:=3) rfl;have f3:=(Hck3.out.boxg (Hnn.out▸gr3)).frozen 3)
   | (refine wpList_load_row rfl 139 (.tmp 5) rfl w.heap.size rfl 139 E_ (0,0) _ hbx Tryz.underlying139 rfl hi104 ?_)
   | (refine J51 rfl 141 _ rfl (E_.push (.bool true)) [(0,.agg E_),(1,.bool true)] (by kernel_rfl) hbu ?_)
   | (refine J3c rfl 141 (.tmp 39) (.tmp 38) rfl B (at_*17) (E_.push (.bool true)) rfl rfl hi107 hfr hone W2 HW2.out ?_))
  go_end0
  have own3':w3.ownsRow w0.heap.size 3 1 (.slice (some ⟨g,0,none⟩) (n+1) cap) (td++[at_]).length ((td++[at_]).map fun(k:Nat)=>Value.int .i64 (k:Int)):=by
   rw[List.length_append,Hnn.out,List.map_append];exact own3
  have gr3':W3.grownBy w3 (Value.slice ta td.length tc).ownBlock:=by rw[Hnn.out];exact gr3
  exact HP.out _ _ (Hck3.out.set gr3' own3') (Hkp3.out.trans (Hck3.out.set_keeps gr3'))

end

theorem J3s{w0:World}{p:Prg}{lo:Loc}{M B:Nat}{l:KV}{td:List Nat}{tv:Value}{w:World}(h:Ck w0 p lo M B l td tv w)(hcl:p.cl<=200)(hn:td.length<=100000)(x:Nat × KS):
  Calls Tryz.prog 75 #[.pointer (some ⟨M,0,none⟩),V x.1,.agg (kv x.2)] w fun e w'=>e=.returned (.tuple #[])/\Keeps w w'/\∃l' td' tv',ComeK p l td x l' td'/\Ck w0 p lo M B l' td' tv' w':=by
 obtain⟨at_,s⟩:=x;dsimp only;by_cases hat:at_ < p.cl
 ·cases hl:l at_ with
  | none=>
   refine(Jk8 w0 p lo M B l td tv w h at_ s hat hcl hn hl).mono ?_;rintro e w' ⟨rfl,tv',h1,h2⟩;refine⟨rfl,h2,_,_,tv',.inr (.inr ⟨hat,?_,?_,rfl⟩),h1⟩
   ·rintro⟨u,e,_⟩
    dsimp only at e;rw[hl]at e;cases e
   ·dsimp only;rw[hl];rfl
  | some t=>
   refine(Jk9 w0 p lo M B l td tv w h at_ s t hat hcl hn hl).mono ?_;rintro e w' ⟨rfl,h2,⟨h3,h4⟩ | ⟨h3,tv',h4⟩⟩
   ·refine⟨rfl,h2,l,td,tv,.inr (.inl ⟨hat,?_,rfl,rfl⟩),h4⟩
    dsimp only;rw[hl];exact⟨t,rfl,h3⟩
   ·refine⟨rfl,h2,_,_,tv',.inr (.inr ⟨hat,?_,?_,rfl⟩),h4⟩
    ·rintro⟨u,e,hu⟩
     dsimp only at e hu;rw[hl]at e hu;cases e
     exact h3 hu
    ·dsimp only;rw[hl];rfl
 ·refine(Jka w0 p lo M B l td tv w h at_ s (by omega)).mono ?_
  rintro e w' ⟨rfl,m⟩;exact⟨rfl,Keeps.of m,l,td,tv,.inl ⟨hat,rfl,rfl⟩,h.more m⟩
theorem Jk2(s:KS)(M:Nat)(a b c n:Int)(w:World)(ha0:0<=a)(ha1:a < 8):
  Calls Tryz.prog 108 #[.pointer (some ⟨M,0,none⟩),.agg #[V 1,V a,V b,V c,V n],.agg (kv s)] w fun e w'=>e=.returned (.agg (kv (setK s a (Kn.of n))))/\More w w':=by
 suffices hP:∀P:Ending->World->Prop,(∀w',More w w'->P (.returned (.agg (kv (setK s a (Kn.of n))))) w')->Calls Tryz.prog 108 #[.pointer (some ⟨M,0,none⟩),.agg #[V 1,V a,V b,V c,V n],.agg (kv s)] w P from hP _ (fun w' m=>⟨rfl,m⟩)
 intro P hP0;have HP:Hid (∀w',More w w'->P (.returned (.agg (kv (setK s a (Kn.of n))))) w'):=hP0;clear hP0;obtain⟨W,HW⟩:∃W:World,Hid (W=((w.alloc (.cells #[V 1,V a,V b,V c,V n] 41)).alloc (.cells (kv s) 139)).alloc (.cells #[V 0,.bool false,V 0,.bool false,V 0,.bool false,V 0,.bool false,V 0,.bool false,V 0,.bool false,V 0,.bool false,V 0,.bool false] 139)):=⟨_,rfl⟩
 have HB:Hid (Blk W w.heap.size #[V 1,V a,V b,V c,V n] 41/\Blk W (w.heap.size+1) (kv s) 139/\Blk W (w.heap.size+1+1) (kv zeroK) 139/\More w W):=by
  rw[HW.out];refine⟨((Blk.last _ _ _).alloc _ _).alloc _ _,(by simpa using Blk.last (w.alloc (.cells #[V 1,V a,V b,V c,V n] 41)) (kv s) 139:Blk _ (w.heap.size+1) _ _).alloc _ _,?_,(((More.refl _).alloc _ _).alloc _ _).alloc _ _⟩;rw[J3n];exact(by simpa using Blk.last ((w.alloc (.cells #[V 1,V a,V b,V c,V n] 41)).alloc (.cells (kv s) 139)) #[V 0,.bool false,V 0,.bool false,V 0,.bool false,V 0,.bool false,V 0,.bool false,V 0,.bool false,V 0,.bool false,V 0,.bool false] 139)
 obtain⟨S,HS⟩:∃S:World->Prop,Hid (∀w',S w'↔More W w'):=⟨_,fun _=>Iff.rfl⟩;have HS0:S W.drew:=(HS.out _).2 (More.refl _).drew;have hne:Nonempty { w' // S w' }:=⟨⟨_,HS0⟩⟩;have k0:∀i:{ w' // S w' },i.val.cell? ⟨w.heap.size,0,none⟩=some (V 1):=fun i=>(HB.out.1.more ((HS.out _).1 i.property)).cell rfl
 have k1:∀i:{ w' // S w' },i.val.cell? ⟨w.heap.size,1,none⟩=some (V a):=fun i=>(HB.out.1.more ((HS.out _).1 i.property)).cell rfl
 have k2:∀i:{ w' // S w' },i.val.cell? ⟨w.heap.size,2,none⟩=some (V b):=fun i=>(HB.out.1.more ((HS.out _).1 i.property)).cell rfl
 have k3:∀i:{ w' // S w' },i.val.cell? ⟨w.heap.size,3,none⟩=some (V c):=fun i=>(HB.out.1.more ((HS.out _).1 i.property)).cell rfl
 have k4:∀i:{ w' // S w' },i.val.cell? ⟨w.heap.size,4,none⟩=some (V n):=fun i=>(HB.out.1.more ((HS.out _).1 i.property)).cell rfl
 have ha8:a.toNat < 8:=by omega
 obtain⟨v,hv⟩:∃v,Kn.of n=v:=⟨_,rfl⟩;have c2:∀w:World,Calls Tryz.prog 130 #[V n] w fun e w'=>e=.returned (kn v.b v.s)/\More w w':=fun w=>hv▸J8g n w
 have Hx:Hid (kv (setK s a ⟨v.b,v.s⟩)=kv (setK s a (Kn.of n))):=by rw[hv];exact rfl
 clear hv;obtain⟨vb,vs⟩:=v;unfold kn at c2;dsimp only at c2;obtain⟨cs,hcs⟩:∃c,kv s=c:=⟨_,rfl⟩;have hcs16:cs.size=16:=hcs▸J0d s;rw[hcs]at HW;rw[hcs];clear hcs;go_enter Tryz.func108,Tryz.ntmps108;go_wp2_with (fail)
 rw[<-HW.out];clear hcs16;refine J0z (S:=S) [(0,true),(1,true),(2,true),(3,true),(4,false),(5,true),(6,false)] (by kernel_rfl) (by kernel_rfl) (by kernel_rfl) HS0 ?_
 iterate 4 (refine J0i rfl (by kernel_rfl) (fun K hK=>?_);go_simp;refine hK _ _ ?_;clear hK K)
 refine J1z rfl (by kernel_rfl) (fun K hK=>?_);go_simp;refine(c2 _).mono ?_;rintro e w2 ⟨rfl,m_⟩;have Hmw2:Hid (More W w2):=(More.refl W).drew.trans m_;clear m_
 go_simp
 refine hK _ _ ((HS.out _).2 Hmw2.out) ?_;clear hK K
 (refine J0i rfl (by kernel_rfl) (fun K hK=>?_);go_simp;refine hK _ _ ?_;clear hK K)
 have HR:Hid (Blk w2 (w.heap.size+1) (kv s) 139):=HB.out.2.1.more (Hmw2.out);have q0:=HR.out.cell (kv_at _ _ ha8).1;have q1:=HR.out.cell (kv_at _ _ ha8).2;have q2:=HR.out.frozen (a.toNat*2);have q3:=HR.out.frozen (a.toNat*2+1);obtain⟨wz,Hwz⟩:∃w_:World,Hid (w_=(w2.setCell ⟨w.heap.size+1,a.toNat*2,none⟩ (V vb)).setCell ⟨w.heap.size+1,a.toNat*2+1,none⟩ (.bool vs)):=⟨_,rfl⟩
 have F:Hid (Blk wz (w.heap.size+1) (kv (setK s a (Kn.of n))) 139/\Blk wz (w.heap.size+1+1) (kv zeroK) 139/\More w wz):=by
  rw[Hwz.out];refine⟨?_,((HB.out.2.2.1.more (Hmw2.out)).other (by omega) _ _).other (by omega) _ _,((HB.out.2.2.2.trans (Hmw2.out)).setCell (by dsimp only;omega) _).setCell (by dsimp only;omega) _⟩;rw[<-Hx.out];exact HR.out.setK a vb vs ha8
 refine J20 rfl (by kernel_rfl) (by kernel_rfl) (fun K hK=>?_)
 go_simp
 rw[<-Hwz.out];refine hK _ _ ?_;clear hK K hne HS0 q0 q1 q2 q3 k0 k1 k2 k3 k4;refine NoPanic.normal ?_;obtain⟨C,hC⟩:∃C,kv (setK s a (Kn.of n))=C:=⟨_,rfl⟩
 have HE:Hid (P (.returned (.agg C)) (wz.setRow (w.heap.size+1+1) C)):=by
  have:=HP.out (wz.setRow (w.heap.size+1+1) C) (F.out.2.2.setRow (by omega) C);rw[hC]at this;exact this
 have hb:wz.heap[w.heap.size+1]?=some (.cells C 139 (0,0)):=by
  have:=F.out.1;rw[hC]at this;exact this
 have hr:wz.heap[w.heap.size+1+1]?=some (.cells (kv zeroK) 139 (0,0)):=F.out.2.1;have hi:(Tryz.prog.info? 139).map (·.size)=some C.size:=by rw[<-hC];exact J1b _
 have hold:(kv zeroK).size=C.size:=by rw[<-hC,J0d,J0d]
 have hone:C.all (·.oneCell')=true:=by rw[<-hC];exact J2w _
 clear HP;go_wp2_with (first | (refine wpList_load_row rfl 139 (.tmp 5) rfl (w.heap.size+1) rfl 139 _ (0,0) _ hb Tryz.underlying139 rfl hi ?_) | (refine wpList_store_row rfl 139 (.tmp 6) (.tmp 87) rfl (w.heap.size+1+1) _ rfl rfl 139 _ hr hi hold hone ?_))
 exact bodyPost_ret (results_cell_row rfl _ _ (w.heap.size+1+1) 139 C (0,0) _ rfl (setRow_heap _ _ _ _ _ _ hr) Tryz.underlying139 rfl hi) rfl HE.out

theorem Jk3(s:KS)(M:Nat)(a b c n:Int)(w:World)(ha0:0<=a)(ha1:a < 8)(hb0:0<=b)(hb1:b < 8):
  Calls Tryz.prog 108 #[.pointer (some ⟨M,0,none⟩),.agg #[V 2,V a,V b,V c,V n],.agg (kv s)] w fun e w'=>e=.returned (.agg (kv (setK s a (s b.toNat))))/\More w w':=by
 suffices hP:∀P:Ending->World->Prop,(∀w',More w w'->P (.returned (.agg (kv (setK s a (s b.toNat))))) w')->Calls Tryz.prog 108 #[.pointer (some ⟨M,0,none⟩),.agg #[V 2,V a,V b,V c,V n],.agg (kv s)] w P from hP _ (fun w' m=>⟨rfl,m⟩)
 intro P hP0;have HP:Hid (∀w',More w w'->P (.returned (.agg (kv (setK s a (s b.toNat))))) w'):=hP0;clear hP0;obtain⟨W,HW⟩:∃W:World,Hid (W=((w.alloc (.cells #[V 2,V a,V b,V c,V n] 41)).alloc (.cells (kv s) 139)).alloc (.cells #[V 0,.bool false,V 0,.bool false,V 0,.bool false,V 0,.bool false,V 0,.bool false,V 0,.bool false,V 0,.bool false,V 0,.bool false] 139)):=⟨_,rfl⟩
 have HB:Hid (Blk W w.heap.size #[V 2,V a,V b,V c,V n] 41/\Blk W (w.heap.size+1) (kv s) 139/\Blk W (w.heap.size+1+1) (kv zeroK) 139/\More w W):=by
  rw[HW.out];refine⟨((Blk.last _ _ _).alloc _ _).alloc _ _,(by simpa using Blk.last (w.alloc (.cells #[V 2,V a,V b,V c,V n] 41)) (kv s) 139:Blk _ (w.heap.size+1) _ _).alloc _ _,?_,(((More.refl _).alloc _ _).alloc _ _).alloc _ _⟩;rw[J3n];exact(by simpa using Blk.last ((w.alloc (.cells #[V 2,V a,V b,V c,V n] 41)).alloc (.cells (kv s) 139)) #[V 0,.bool false,V 0,.bool false,V 0,.bool false,V 0,.bool false,V 0,.bool false,V 0,.bool false,V 0,.bool false,V 0,.bool false] 139)
 obtain⟨S,HS⟩:∃S:World->Prop,Hid (∀w',S w'↔More W w'):=⟨_,fun _=>Iff.rfl⟩;have HS0:S W.drew:=(HS.out _).2 (More.refl _).drew;have hne:Nonempty { w' // S w' }:=⟨⟨_,HS0⟩⟩;have k0:∀i:{ w' // S w' },i.val.cell? ⟨w.heap.size,0,none⟩=some (V 2):=fun i=>(HB.out.1.more ((HS.out _).1 i.property)).cell rfl
 have k1:∀i:{ w' // S w' },i.val.cell? ⟨w.heap.size,1,none⟩=some (V a):=fun i=>(HB.out.1.more ((HS.out _).1 i.property)).cell rfl
 have k2:∀i:{ w' // S w' },i.val.cell? ⟨w.heap.size,2,none⟩=some (V b):=fun i=>(HB.out.1.more ((HS.out _).1 i.property)).cell rfl
 have k3:∀i:{ w' // S w' },i.val.cell? ⟨w.heap.size,3,none⟩=some (V c):=fun i=>(HB.out.1.more ((HS.out _).1 i.property)).cell rfl
 have k4:∀i:{ w' // S w' },i.val.cell? ⟨w.heap.size,4,none⟩=some (V n):=fun i=>(HB.out.1.more ((HS.out _).1 i.property)).cell rfl
 have ha8:a.toNat < 8:=by omega
 obtain⟨xb,hxb⟩:∃x,s b.toNat=x:=⟨_,rfl⟩;have hb8:b.toNat < 8:=by omega
 have kb0:∀i:{ w' // S w' },i.val.cell? ⟨w.heap.size+1,b.toNat*2,none⟩=some (V xb.b):=fun i=>by rw[(HB.out.2.1.more ((HS.out _).1 i.property)).cell (kv_at _ _ hb8).1,hxb]
 have kb1:∀i:{ w' // S w' },i.val.cell? ⟨w.heap.size+1,b.toNat*2+1,none⟩=some (.bool xb.s):=fun i=>by rw[(HB.out.2.1.more ((HS.out _).1 i.property)).cell (kv_at _ _ hb8).2,hxb]
 have Hx:Hid (kv (setK s a ⟨xb.b,xb.s⟩)=kv (setK s a (s b.toNat))):=by rw[hxb];exact rfl
 clear hxb;obtain⟨vb,vs⟩:=xb;dsimp only at kb0 kb1;obtain⟨cs,hcs⟩:∃c,kv s=c:=⟨_,rfl⟩;have hcs16:cs.size=16:=hcs▸J0d s;rw[hcs]at HW;rw[hcs];clear hcs;go_enter Tryz.func108,Tryz.ntmps108;go_wp2_with (fail)
 rw[<-HW.out];clear hcs16;refine J0z (S:=S) [(0,true),(1,true),(2,true),(3,true),(4,true),(5,true),(6,true),(7,false)] (by kernel_rfl) (by kernel_rfl) (by kernel_rfl) HS0 ?_
 iterate 6 (refine J0i rfl (by kernel_rfl) (fun K hK=>?_);go_simp;refine hK _ _ ?_;clear hK K)
 obtain⟨wd,Hwd⟩:∃w_:World,Hid (w_=W.drew):=⟨_,rfl⟩;have Hmwd:Hid (More W wd):=Hwd.out▸(More.refl W).drew;rw[<-Hwd.out]
 (refine J0i rfl (by kernel_rfl) (fun K hK=>?_);go_simp;refine hK _ _ ?_;clear hK K)
 have HR:Hid (Blk wd (w.heap.size+1) (kv s) 139):=HB.out.2.1.more (Hmwd.out);have q0:=HR.out.cell (kv_at _ _ ha8).1;have q1:=HR.out.cell (kv_at _ _ ha8).2;have q2:=HR.out.frozen (a.toNat*2);have q3:=HR.out.frozen (a.toNat*2+1);obtain⟨wz,Hwz⟩:∃w_:World,Hid (w_=(wd.setCell ⟨w.heap.size+1,a.toNat*2,none⟩ (V vb)).setCell ⟨w.heap.size+1,a.toNat*2+1,none⟩ (.bool vs)):=⟨_,rfl⟩
 have F:Hid (Blk wz (w.heap.size+1) (kv (setK s a (s b.toNat))) 139/\Blk wz (w.heap.size+1+1) (kv zeroK) 139/\More w wz):=by
  rw[Hwz.out];refine⟨?_,((HB.out.2.2.1.more (Hmwd.out)).other (by omega) _ _).other (by omega) _ _,((HB.out.2.2.2.trans (Hmwd.out)).setCell (by dsimp only;omega) _).setCell (by dsimp only;omega) _⟩;rw[<-Hx.out];exact HR.out.setK a vb vs ha8
 refine J20 rfl (by kernel_rfl) (by kernel_rfl) (fun K hK=>?_)
 go_simp
 rw[<-Hwz.out];refine hK _ _ ?_;clear hK K hne HS0 q0 q1 q2 q3 k0 k1 k2 k3 k4;refine NoPanic.normal ?_;obtain⟨C,hC⟩:∃C,kv (setK s a (s b.toNat))=C:=⟨_,rfl⟩
 have HE:Hid (P (.returned (.agg C)) (wz.setRow (w.heap.size+1+1) C)):=by
  have:=HP.out (wz.setRow (w.heap.size+1+1) C) (F.out.2.2.setRow (by omega) C);rw[hC]at this;exact this
 have hb:wz.heap[w.heap.size+1]?=some (.cells C 139 (0,0)):=by
  have:=F.out.1;rw[hC]at this;exact this
 have hr:wz.heap[w.heap.size+1+1]?=some (.cells (kv zeroK) 139 (0,0)):=F.out.2.1;have hi:(Tryz.prog.info? 139).map (·.size)=some C.size:=by rw[<-hC];exact J1b _
 have hold:(kv zeroK).size=C.size:=by rw[<-hC,J0d,J0d]
 have hone:C.all (·.oneCell')=true:=by rw[<-hC];exact J2w _
 clear HP;go_wp2_with (first | (refine wpList_load_row rfl 139 (.tmp 5) rfl (w.heap.size+1) rfl 139 _ (0,0) _ hb Tryz.underlying139 rfl hi ?_) | (refine wpList_store_row rfl 139 (.tmp 6) (.tmp 87) rfl (w.heap.size+1+1) _ rfl rfl 139 _ hr hi hold hone ?_))
 exact bodyPost_ret (results_cell_row rfl _ _ (w.heap.size+1+1) 139 C (0,0) _ rfl (setRow_heap _ _ _ _ _ _ hr) Tryz.underlying139 rfl hi) rfl HE.out

theorem Ji0(s:KS)(M:Nat)(a b c n:Int)(w:World)(ha0:0<=a)(ha1:a < 8)(hb0:0<=b)(hb1:b < 8)(n0:-9223372036854775808<=n)(n1:n<=9223372036854775807):
  Calls Tryz.prog 108 #[.pointer (some ⟨M,0,none⟩),.agg #[V 10,V a,V b,V c,V n],.agg (kv s)] w fun e w'=>e=.returned (.agg (kv (setK s a (Kn.index (s b.toNat) n))))/\More w w':=by
 suffices hP:∀P:Ending->World->Prop,(∀w',More w w'->P (.returned (.agg (kv (setK s a (Kn.index (s b.toNat) n))))) w')->Calls Tryz.prog 108 #[.pointer (some ⟨M,0,none⟩),.agg #[V 10,V a,V b,V c,V n],.agg (kv s)] w P from hP _ (fun w' m=>⟨rfl,m⟩)
 intro P hP0;have HP:Hid (∀w',More w w'->P (.returned (.agg (kv (setK s a (Kn.index (s b.toNat) n))))) w'):=hP0;clear hP0;obtain⟨W,HW⟩:∃W:World,Hid (W=((w.alloc (.cells #[V 10,V a,V b,V c,V n] 41)).alloc (.cells (kv s) 139)).alloc (.cells #[V 0,.bool false,V 0,.bool false,V 0,.bool false,V 0,.bool false,V 0,.bool false,V 0,.bool false,V 0,.bool false,V 0,.bool false] 139)):=⟨_,rfl⟩
 have HB:Hid (Blk W w.heap.size #[V 10,V a,V b,V c,V n] 41/\Blk W (w.heap.size+1) (kv s) 139/\Blk W (w.heap.size+1+1) (kv zeroK) 139/\More w W):=by
  rw[HW.out];refine⟨((Blk.last _ _ _).alloc _ _).alloc _ _,(by simpa using Blk.last (w.alloc (.cells #[V 10,V a,V b,V c,V n] 41)) (kv s) 139:Blk _ (w.heap.size+1) _ _).alloc _ _,?_,(((More.refl _).alloc _ _).alloc _ _).alloc _ _⟩;rw[J3n];exact(by simpa using Blk.last ((w.alloc (.cells #[V 10,V a,V b,V c,V n] 41)).alloc (.cells (kv s) 139)) #[V 0,.bool false,V 0,.bool false,V 0,.bool false,V 0,.bool false,V 0,.bool false,V 0,.bool false,V 0,.bool false,V 0,.bool false] 139)
 obtain⟨S,HS⟩:∃S:World->Prop,Hid (∀w',S w'↔More W w'):=⟨_,fun _=>Iff.rfl⟩;have HS0:S W.drew:=(HS.out _).2 (More.refl _).drew;have hne:Nonempty { w' // S w' }:=⟨⟨_,HS0⟩⟩;have k0:∀i:{ w' // S w' },i.val.cell? ⟨w.heap.size,0,none⟩=some (V 10):=fun i=>(HB.out.1.more ((HS.out _).1 i.property)).cell rfl
 have k1:∀i:{ w' // S w' },i.val.cell? ⟨w.heap.size,1,none⟩=some (V a):=fun i=>(HB.out.1.more ((HS.out _).1 i.property)).cell rfl
 have k2:∀i:{ w' // S w' },i.val.cell? ⟨w.heap.size,2,none⟩=some (V b):=fun i=>(HB.out.1.more ((HS.out _).1 i.property)).cell rfl
 have k3:∀i:{ w' // S w' },i.val.cell? ⟨w.heap.size,3,none⟩=some (V c):=fun i=>(HB.out.1.more ((HS.out _).1 i.property)).cell rfl
 have k4:∀i:{ w' // S w' },i.val.cell? ⟨w.heap.size,4,none⟩=some (V n):=fun i=>(HB.out.1.more ((HS.out _).1 i.property)).cell rfl
 have ha8:a.toNat < 8:=by omega
 obtain⟨xb,hxb⟩:∃x,s b.toNat=x:=⟨_,rfl⟩;have hb8:b.toNat < 8:=by omega
 have kb0:∀i:{ w' // S w' },i.val.cell? ⟨w.heap.size+1,b.toNat*2,none⟩=some (V xb.b):=fun i=>by rw[(HB.out.2.1.more ((HS.out _).1 i.property)).cell (kv_at _ _ hb8).1,hxb]
 have kb1:∀i:{ w' // S w' },i.val.cell? ⟨w.heap.size+1,b.toNat*2+1,none⟩=some (.bool xb.s):=fun i=>by rw[(HB.out.2.1.more ((HS.out _).1 i.property)).cell (kv_at _ _ hb8).2,hxb]
 obtain⟨v,hv⟩:∃v,Kn.index xb n=v:=⟨_,rfl⟩;have c2:∀w:World,Calls Tryz.prog 131 #[kn xb.b xb.s,V n] w fun e w'=>e=.returned (kn v.b v.s)/\More w w':=fun w=>hv▸sum_k xb n n0 w
 have Hx:Hid (kv (setK s a ⟨v.b,v.s⟩)=kv (setK s a (Kn.index (s b.toNat) n))):=by rw[hxb,hv];exact rfl
 clear hv hxb;obtain⟨vb,vs⟩:=v;obtain⟨xbb,xbs⟩:=xb;unfold kn at c2;dsimp only at c2 kb0 kb1;obtain⟨cs,hcs⟩:∃c,kv s=c:=⟨_,rfl⟩;have hcs16:cs.size=16:=hcs▸J0d s;rw[hcs]at HW;rw[hcs];clear hcs;go_enter Tryz.func108,Tryz.ntmps108;go_wp2_with (fail)
 rw[<-HW.out];clear hcs16;refine J0z (S:=S) [(0,true),(1,true),(2,true),(3,true),(4,true),(5,true),(6,true),(7,true),(8,false),(9,true),(10,false)] (by kernel_rfl) (by kernel_rfl) (by kernel_rfl) HS0 ?_
 iterate 8 (refine J0i rfl (by kernel_rfl) (fun K hK=>?_);go_simp;refine hK _ _ ?_;clear hK K)
 refine J1z rfl (by kernel_rfl) (fun K hK=>?_);go_simp;refine(c2 _).mono ?_;rintro e w2 ⟨rfl,m_⟩;have Hmw2:Hid (More W w2):=(More.refl W).drew.trans m_;clear m_
 go_simp
 refine hK _ _ ((HS.out _).2 Hmw2.out) ?_;clear hK K
 (refine J0i rfl (by kernel_rfl) (fun K hK=>?_);go_simp;refine hK _ _ ?_;clear hK K)
 have HR:Hid (Blk w2 (w.heap.size+1) (kv s) 139):=HB.out.2.1.more (Hmw2.out);have q0:=HR.out.cell (kv_at _ _ ha8).1;have q1:=HR.out.cell (kv_at _ _ ha8).2;have q2:=HR.out.frozen (a.toNat*2);have q3:=HR.out.frozen (a.toNat*2+1);obtain⟨wz,Hwz⟩:∃w_:World,Hid (w_=(w2.setCell ⟨w.heap.size+1,a.toNat*2,none⟩ (V vb)).setCell ⟨w.heap.size+1,a.toNat*2+1,none⟩ (.bool vs)):=⟨_,rfl⟩
 have F:Hid (Blk wz (w.heap.size+1) (kv (setK s a (Kn.index (s b.toNat) n))) 139/\Blk wz (w.heap.size+1+1) (kv zeroK) 139/\More w wz):=by
  rw[Hwz.out];refine⟨?_,((HB.out.2.2.1.more (Hmw2.out)).other (by omega) _ _).other (by omega) _ _,((HB.out.2.2.2.trans (Hmw2.out)).setCell (by dsimp only;omega) _).setCell (by dsimp only;omega) _⟩;rw[<-Hx.out];exact HR.out.setK a vb vs ha8
 refine J20 rfl (by kernel_rfl) (by kernel_rfl) (fun K hK=>?_)
 go_simp
 rw[<-Hwz.out];refine hK _ _ ?_;clear hK K hne HS0 q0 q1 q2 q3 k0 k1 k2 k3 k4;refine NoPanic.normal ?_;obtain⟨C,hC⟩:∃C,kv (setK s a (Kn.index (s b.toNat) n))=C:=⟨_,rfl⟩
 have HE:Hid (P (.returned (.agg C)) (wz.setRow (w.heap.size+1+1) C)):=by
  have:=HP.out (wz.setRow (w.heap.size+1+1) C) (F.out.2.2.setRow (by omega) C);rw[hC]at this;exact this
 have hb:wz.heap[w.heap.size+1]?=some (.cells C 139 (0,0)):=by
  have:=F.out.1;rw[hC]at this;exact this
 have hr:wz.heap[w.heap.size+1+1]?=some (.cells (kv zeroK) 139 (0,0)):=F.out.2.1;have hi:(Tryz.prog.info? 139).map (·.size)=some C.size:=by rw[<-hC];exact J1b _
 have hold:(kv zeroK).size=C.size:=by rw[<-hC,J0d,J0d]
 have hone:C.all (·.oneCell')=true:=by rw[<-hC];exact J2w _
 clear HP;go_wp2_with (first | (refine wpList_load_row rfl 139 (.tmp 5) rfl (w.heap.size+1) rfl 139 _ (0,0) _ hb Tryz.underlying139 rfl hi ?_) | (refine wpList_store_row rfl 139 (.tmp 6) (.tmp 87) rfl (w.heap.size+1+1) _ rfl rfl 139 _ hr hi hold hone ?_))
 exact bodyPost_ret (results_cell_row rfl _ _ (w.heap.size+1+1) 139 C (0,0) _ rfl (setRow_heap _ _ _ _ _ _ hr) Tryz.underlying139 rfl hi) rfl HE.out

theorem Jc5(ov_:Int)(hov_:ov_=3\/ov_=5)(s:KS)(M:Nat)(a b c n:Int)(w:World)(rb ro rl rc:Nat)(log:Nat->Int)(sec:Nat->Bool)(hM:w.cell? ⟨M,0,none⟩=some (.slice (some ⟨rb,ro,none⟩) rl rc))(hregs:RegsAt w rb ro rl log sec)(hc0:0<=c)(hc1:c < rl)(ha0:0<=a)(ha1:a < 8):
  Calls Tryz.prog 108 #[.pointer (some ⟨M,0,none⟩),.agg #[V ov_,V a,V b,V c,V n],.agg (kv s)] w fun e w'=>e=.returned (.agg (kv (setK s a ⟨17,sec c.toNat⟩)))/\More w w':=by
 suffices hP:∀P:Ending->World->Prop,(∀w',More w w'->P (.returned (.agg (kv (setK s a ⟨17,sec c.toNat⟩)))) w')->Calls Tryz.prog 108 #[.pointer (some ⟨M,0,none⟩),.agg #[V ov_,V a,V b,V c,V n],.agg (kv s)] w P from hP _ (fun w' m=>⟨rfl,m⟩)
 intro P hP0;have HP:Hid (∀w',More w w'->P (.returned (.agg (kv (setK s a ⟨17,sec c.toNat⟩)))) w'):=hP0;clear hP0;have HM:Hid (w.cell? ⟨M,0,none⟩=some (.slice (some ⟨rb,ro,none⟩) rl rc)/\RegsAt w rb ro rl log sec):=⟨hM,hregs⟩;clear hM hregs;obtain⟨W,HW⟩:∃W:World,Hid (W=((w.alloc (.cells #[V ov_,V a,V b,V c,V n] 41)).alloc (.cells (kv s) 139)).alloc (.cells #[V 0,.bool false,V 0,.bool false,V 0,.bool false,V 0,.bool false,V 0,.bool false,V 0,.bool false,V 0,.bool false,V 0,.bool false] 139)):=⟨_,rfl⟩
 have HB:Hid (Blk W w.heap.size #[V ov_,V a,V b,V c,V n] 41/\Blk W (w.heap.size+1) (kv s) 139/\Blk W (w.heap.size+1+1) (kv zeroK) 139/\More w W):=by
  rw[HW.out];refine⟨((Blk.last _ _ _).alloc _ _).alloc _ _,(by simpa using Blk.last (w.alloc (.cells #[V ov_,V a,V b,V c,V n] 41)) (kv s) 139:Blk _ (w.heap.size+1) _ _).alloc _ _,?_,(((More.refl _).alloc _ _).alloc _ _).alloc _ _⟩;rw[J3n];exact(by simpa using Blk.last ((w.alloc (.cells #[V ov_,V a,V b,V c,V n] 41)).alloc (.cells (kv s) 139)) #[V 0,.bool false,V 0,.bool false,V 0,.bool false,V 0,.bool false,V 0,.bool false,V 0,.bool false,V 0,.bool false,V 0,.bool false] 139)
 obtain⟨S,HS⟩:∃S:World->Prop,Hid (∀w',S w'↔More W w'):=⟨_,fun _=>Iff.rfl⟩;have HS0:S W.drew:=(HS.out _).2 (More.refl _).drew;have hne:Nonempty { w' // S w' }:=⟨⟨_,HS0⟩⟩;have k0:∀i:{ w' // S w' },i.val.cell? ⟨w.heap.size,0,none⟩=some (V ov_):=fun i=>(HB.out.1.more ((HS.out _).1 i.property)).cell rfl
 rcases hov_ with rfl | rfl
 all_goals
  have k1:∀i:{ w' // S w' },i.val.cell? ⟨w.heap.size,1,none⟩=some (V a):=fun i=>(HB.out.1.more ((HS.out _).1 i.property)).cell rfl
  have k2:∀i:{ w' // S w' },i.val.cell? ⟨w.heap.size,2,none⟩=some (V b):=fun i=>(HB.out.1.more ((HS.out _).1 i.property)).cell rfl
  have k3:∀i:{ w' // S w' },i.val.cell? ⟨w.heap.size,3,none⟩=some (V c):=fun i=>(HB.out.1.more ((HS.out _).1 i.property)).cell rfl
  have k4:∀i:{ w' // S w' },i.val.cell? ⟨w.heap.size,4,none⟩=some (V n):=fun i=>(HB.out.1.more ((HS.out _).1 i.property)).cell rfl
  have ha8:a.toNat < 8:=by omega
  have hcr:c.toNat < rl:=by omega
  have kM:∀i:{ w' // S w' },i.val.cell? ⟨M,0,none⟩=some (.slice (some ⟨rb,ro,none⟩) rl rc):=fun i=>(HB.out.2.2.2.trans ((HS.out _).1 i.property)).cell HM.out.1
  obtain⟨lg,hlg⟩:∃x,log c.toNat=x:=⟨_,rfl⟩;obtain⟨vs,hvs⟩:∃x,sec c.toNat=x:=⟨_,rfl⟩;have kr0:∀i:{ w' // S w' },i.val.cell? ⟨rb,ro+c.toNat*2,none⟩=some (V lg):=fun i=>hlg▸(HB.out.2.2.2.trans ((HS.out _).1 i.property)).cell (HM.out.2 _ hcr).1
  have kr1:∀i:{ w' // S w' },i.val.cell? ⟨rb,ro+c.toNat*2+1,none⟩=some (.bool vs):=fun i=>hvs▸(HB.out.2.2.2.trans ((HS.out _).1 i.property)).cell (HM.out.2 _ hcr).2
  have c2:∀w:World,Calls Tryz.prog 132 #[.agg #[V lg,.bool vs]] w fun e w'=>e=.returned (kn 17 vs)/\More w w':=fun w=>Jcp lg vs w
  have Hx:Hid (kv (setK s a ⟨17,vs⟩)=kv (setK s a ⟨17,sec c.toNat⟩)):=by rw[hvs];exact rfl
  clear hvs hlg;unfold kn at c2;obtain⟨cs,hcs⟩:∃c,kv s=c:=⟨_,rfl⟩;have hcs16:cs.size=16:=hcs▸J0d s;rw[hcs]at HW;rw[hcs];clear hcs;go_enter Tryz.func108,Tryz.ntmps108;go_wp2_with (fail)
  rw[<-HW.out];clear hcs16;refine J0z (S:=S) [(0,true),(1,true),(2,true),(3,true),(4,true),(5,true),(6,true),(7,true),(8,true),(9,true),(10,true),(11,false),(12,true),(13,false)] (by kernel_rfl) (by kernel_rfl) (by kernel_rfl) HS0 ?_
  iterate 11 (refine J0i rfl (by kernel_rfl) (fun K hK=>?_);go_simp;refine hK _ _ ?_;clear hK K)
  refine J1z rfl (by kernel_rfl) (fun K hK=>?_);go_simp;refine(c2 _).mono ?_;rintro e w2 ⟨rfl,m_⟩;have Hmw2:Hid (More W w2):=(More.refl W).drew.trans m_;clear m_
  go_simp
  refine hK _ _ ((HS.out _).2 Hmw2.out) ?_;clear hK K
  (refine J0i rfl (by kernel_rfl) (fun K hK=>?_);go_simp;refine hK _ _ ?_;clear hK K)
  have HR:Hid (Blk w2 (w.heap.size+1) (kv s) 139):=HB.out.2.1.more (Hmw2.out);have q0:=HR.out.cell (kv_at _ _ ha8).1;have q1:=HR.out.cell (kv_at _ _ ha8).2;have q2:=HR.out.frozen (a.toNat*2);have q3:=HR.out.frozen (a.toNat*2+1);obtain⟨wz,Hwz⟩:∃w_:World,Hid (w_=(w2.setCell ⟨w.heap.size+1,a.toNat*2,none⟩ (V 17)).setCell ⟨w.heap.size+1,a.toNat*2+1,none⟩ (.bool vs)):=⟨_,rfl⟩
  have F:Hid (Blk wz (w.heap.size+1) (kv (setK s a ⟨17,sec c.toNat⟩)) 139/\Blk wz (w.heap.size+1+1) (kv zeroK) 139/\More w wz):=by
   rw[Hwz.out];refine⟨?_,((HB.out.2.2.1.more (Hmw2.out)).other (by omega) _ _).other (by omega) _ _,((HB.out.2.2.2.trans (Hmw2.out)).setCell (by dsimp only;omega) _).setCell (by dsimp only;omega) _⟩;rw[<-Hx.out];exact HR.out.setK a 17 vs ha8
  refine J20 rfl (by kernel_rfl) (by kernel_rfl) (fun K hK=>?_)
  go_simp
  rw[<-Hwz.out];refine hK _ _ ?_;clear hK K hne HS0 q0 q1 q2 q3 k0 k1 k2 k3 k4 kM kr0 kr1;refine NoPanic.normal ?_;obtain⟨C,hC⟩:∃C,kv (setK s a ⟨17,sec c.toNat⟩)=C:=⟨_,rfl⟩
  have HE:Hid (P (.returned (.agg C)) (wz.setRow (w.heap.size+1+1) C)):=by
   have:=HP.out (wz.setRow (w.heap.size+1+1) C) (F.out.2.2.setRow (by omega) C);rw[hC]at this;exact this
  have hb:wz.heap[w.heap.size+1]?=some (.cells C 139 (0,0)):=by
   have:=F.out.1;rw[hC]at this;exact this
  have hr:wz.heap[w.heap.size+1+1]?=some (.cells (kv zeroK) 139 (0,0)):=F.out.2.1;have hi:(Tryz.prog.info? 139).map (·.size)=some C.size:=by rw[<-hC];exact J1b _
  have hold:(kv zeroK).size=C.size:=by rw[<-hC,J0d,J0d]
  have hone:C.all (·.oneCell')=true:=by rw[<-hC];exact J2w _
  clear HP;go_wp2_with (first | (refine wpList_load_row rfl 139 (.tmp 5) rfl (w.heap.size+1) rfl 139 _ (0,0) _ hb Tryz.underlying139 rfl hi ?_) | (refine wpList_store_row rfl 139 (.tmp 6) (.tmp 87) rfl (w.heap.size+1+1) _ rfl rfl 139 _ hr hi hold hone ?_))
  exact bodyPost_ret (results_cell_row rfl _ _ (w.heap.size+1+1) 139 C (0,0) _ rfl (setRow_heap _ _ _ _ _ _ hr) Tryz.underlying139 rfl hi) rfl HE.out

theorem Ji1(s:KS)(M:Nat)(a b c n:Int)(w:World)(ha0:0<=a)(ha1:a < 8)(n0:0<=n)(n1:n<=9223372036854775807):
  Calls Tryz.prog 108 #[.pointer (some ⟨M,0,none⟩),.agg #[V 11,V a,V b,V c,V n],.agg (kv s)] w fun e w'=>e=.returned (.agg (kv (setK s a (Kn.less (s a.toNat) (Kn.of (wrap64 (n - 1)))))))/\More w w':=by
 suffices hP:∀P:Ending->World->Prop,(∀w',More w w'->P (.returned (.agg (kv (setK s a (Kn.less (s a.toNat) (Kn.of (wrap64 (n - 1)))))))) w')->Calls Tryz.prog 108 #[.pointer (some ⟨M,0,none⟩),.agg #[V 11,V a,V b,V c,V n],.agg (kv s)] w P from hP _ (fun w' m=>⟨rfl,m⟩)
 intro P hP0;have HP:Hid (∀w',More w w'->P (.returned (.agg (kv (setK s a (Kn.less (s a.toNat) (Kn.of (wrap64 (n - 1)))))))) w'):=hP0;clear hP0;obtain⟨W,HW⟩:∃W:World,Hid (W=((w.alloc (.cells #[V 11,V a,V b,V c,V n] 41)).alloc (.cells (kv s) 139)).alloc (.cells #[V 0,.bool false,V 0,.bool false,V 0,.bool false,V 0,.bool false,V 0,.bool false,V 0,.bool false,V 0,.bool false,V 0,.bool false] 139)):=⟨_,rfl⟩
 have HB:Hid (Blk W w.heap.size #[V 11,V a,V b,V c,V n] 41/\Blk W (w.heap.size+1) (kv s) 139/\Blk W (w.heap.size+1+1) (kv zeroK) 139/\More w W):=by
  rw[HW.out];refine⟨((Blk.last _ _ _).alloc _ _).alloc _ _,(by simpa using Blk.last (w.alloc (.cells #[V 11,V a,V b,V c,V n] 41)) (kv s) 139:Blk _ (w.heap.size+1) _ _).alloc _ _,?_,(((More.refl _).alloc _ _).alloc _ _).alloc _ _⟩;rw[J3n];exact(by simpa using Blk.last ((w.alloc (.cells #[V 11,V a,V b,V c,V n] 41)).alloc (.cells (kv s) 139)) #[V 0,.bool false,V 0,.bool false,V 0,.bool false,V 0,.bool false,V 0,.bool false,V 0,.bool false,V 0,.bool false,V 0,.bool false] 139)
 obtain⟨S,HS⟩:∃S:World->Prop,Hid (∀w',S w'↔More W w'):=⟨_,fun _=>Iff.rfl⟩;have HS0:S W.drew:=(HS.out _).2 (More.refl _).drew;have hne:Nonempty { w' // S w' }:=⟨⟨_,HS0⟩⟩;have k0:∀i:{ w' // S w' },i.val.cell? ⟨w.heap.size,0,none⟩=some (V 11):=fun i=>(HB.out.1.more ((HS.out _).1 i.property)).cell rfl
 have k1:∀i:{ w' // S w' },i.val.cell? ⟨w.heap.size,1,none⟩=some (V a):=fun i=>(HB.out.1.more ((HS.out _).1 i.property)).cell rfl
 have k2:∀i:{ w' // S w' },i.val.cell? ⟨w.heap.size,2,none⟩=some (V b):=fun i=>(HB.out.1.more ((HS.out _).1 i.property)).cell rfl
 have k3:∀i:{ w' // S w' },i.val.cell? ⟨w.heap.size,3,none⟩=some (V c):=fun i=>(HB.out.1.more ((HS.out _).1 i.property)).cell rfl
 have k4:∀i:{ w' // S w' },i.val.cell? ⟨w.heap.size,4,none⟩=some (V n):=fun i=>(HB.out.1.more ((HS.out _).1 i.property)).cell rfl
 have ha8:a.toNat < 8:=by omega
 obtain⟨xa,hxa⟩:∃x,s a.toNat=x:=⟨_,rfl⟩;have ka0:∀i:{ w' // S w' },i.val.cell? ⟨w.heap.size+1,a.toNat*2,none⟩=some (V xa.b):=fun i=>by rw[(HB.out.2.1.more ((HS.out _).1 i.property)).cell (kv_at _ _ ha8).1,hxa]
 have ka1:∀i:{ w' // S w' },i.val.cell? ⟨w.heap.size+1,a.toNat*2+1,none⟩=some (.bool xa.s):=fun i=>by rw[(HB.out.2.1.more ((HS.out _).1 i.property)).cell (kv_at _ _ ha8).2,hxa]
 have hwr:IntKind.i64.wrap (n - 1)=n - 1:=by rw[IntKind.wrap_i64];omega
 have hn2:wrap64 (n - 1)=n - 1:=by unfold wrap64;omega
 obtain⟨ov,hov⟩:∃v,Kn.of (n - 1)=v:=⟨_,rfl⟩;have c0:∀w:World,Calls Tryz.prog 130 #[V (n - 1)] w fun e w'=>e=.returned (kn ov.b ov.s)/\More w w':=fun w=>hov▸J8g (n - 1) w
 obtain⟨v,hv⟩:∃v,Kn.less xa ov=v:=⟨_,rfl⟩;have c2:∀w:World,Calls Tryz.prog 129 #[kn xa.b xa.s,kn ov.b ov.s] w fun e w'=>e=.returned (kn v.b v.s)/\More w w':=fun w=>hv▸J6x xa.b ov.b xa.s ov.s w
 have Hx:Hid (kv (setK s a ⟨v.b,v.s⟩)=kv (setK s a (Kn.less (s a.toNat) (Kn.of (wrap64 (n - 1)))))):=by rw[hn2,hxa,hov,hv];exact rfl
 clear hv hxa hov hn2;obtain⟨vb,vs⟩:=v;obtain⟨xab,xas⟩:=xa;obtain⟨ob,os⟩:=ov;unfold kn at c0 c2;dsimp only at c0 c2 ka0 ka1;obtain⟨cs,hcs⟩:∃c,kv s=c:=⟨_,rfl⟩;have hcs16:cs.size=16:=hcs▸J0d s;rw[hcs]at HW;rw[hcs];clear hcs;go_enter Tryz.func108,Tryz.ntmps108;go_wp2_with (fail)
 rw[<-HW.out];clear hcs16;refine J0z (S:=S) [(0,true),(1,true),(2,true),(3,true),(4,true),(5,true),(6,true),(7,true),(8,true),(9,false),(10,false),(11,true),(12,false)] (by kernel_rfl) (by kernel_rfl) (by kernel_rfl) HS0 ?_
 iterate 9 (refine J0i rfl (by kernel_rfl) (fun K hK=>?_);go_simp;refine hK _ _ ?_;clear hK K)
 refine J1z rfl (by kernel_rfl) (fun K hK=>?_);go_simp
 try rw[hwr]
 refine(c0 _).mono ?_;rintro e w2 ⟨rfl,m_⟩;have Hmw2:Hid (More W w2):=(More.refl W).drew.trans m_;clear m_
 go_simp
 refine hK _ _ ((HS.out _).2 Hmw2.out) ?_;clear hK K;refine J1z rfl (by kernel_rfl) (fun K hK=>?_);go_simp
 try rw[hwr]
 refine(c2 _).mono ?_;rintro e w3 ⟨rfl,m_⟩;have Hmw3:Hid (More W w3):=Hmw2.out.trans m_;clear m_
 go_simp
 refine hK _ _ ((HS.out _).2 Hmw3.out) ?_;clear hK K
 (refine J0i rfl (by kernel_rfl) (fun K hK=>?_);go_simp;refine hK _ _ ?_;clear hK K)
 have HR:Hid (Blk w3 (w.heap.size+1) (kv s) 139):=HB.out.2.1.more (Hmw3.out);have q0:=HR.out.cell (kv_at _ _ ha8).1;have q1:=HR.out.cell (kv_at _ _ ha8).2;have q2:=HR.out.frozen (a.toNat*2);have q3:=HR.out.frozen (a.toNat*2+1);obtain⟨wz,Hwz⟩:∃w_:World,Hid (w_=(w3.setCell ⟨w.heap.size+1,a.toNat*2,none⟩ (V vb)).setCell ⟨w.heap.size+1,a.toNat*2+1,none⟩ (.bool vs)):=⟨_,rfl⟩
 have F:Hid (Blk wz (w.heap.size+1) (kv (setK s a (Kn.less (s a.toNat) (Kn.of (wrap64 (n - 1)))))) 139/\Blk wz (w.heap.size+1+1) (kv zeroK) 139/\More w wz):=by
  rw[Hwz.out];refine⟨?_,((HB.out.2.2.1.more (Hmw3.out)).other (by omega) _ _).other (by omega) _ _,((HB.out.2.2.2.trans (Hmw3.out)).setCell (by dsimp only;omega) _).setCell (by dsimp only;omega) _⟩;rw[<-Hx.out];exact HR.out.setK a vb vs ha8
 refine J20 rfl (by kernel_rfl) (by kernel_rfl) (fun K hK=>?_)
 go_simp
 rw[<-Hwz.out];refine hK _ _ ?_;clear hK K hne HS0 q0 q1 q2 q3 k0 k1 k2 k3 k4;refine NoPanic.normal ?_;obtain⟨C,hC⟩:∃C,kv (setK s a (Kn.less (s a.toNat) (Kn.of (wrap64 (n - 1)))))=C:=⟨_,rfl⟩
 have HE:Hid (P (.returned (.agg C)) (wz.setRow (w.heap.size+1+1) C)):=by
  have:=HP.out (wz.setRow (w.heap.size+1+1) C) (F.out.2.2.setRow (by omega) C);rw[hC]at this;exact this
 have hb:wz.heap[w.heap.size+1]?=some (.cells C 139 (0,0)):=by
  have:=F.out.1;rw[hC]at this;exact this
 have hr:wz.heap[w.heap.size+1+1]?=some (.cells (kv zeroK) 139 (0,0)):=F.out.2.1;have hi:(Tryz.prog.info? 139).map (·.size)=some C.size:=by rw[<-hC];exact J1b _
 have hold:(kv zeroK).size=C.size:=by rw[<-hC,J0d,J0d]
 have hone:C.all (·.oneCell')=true:=by rw[<-hC];exact J2w _
 clear HP;go_wp2_with (first | (refine wpList_load_row rfl 139 (.tmp 5) rfl (w.heap.size+1) rfl 139 _ (0,0) _ hb Tryz.underlying139 rfl hi ?_) | (refine wpList_store_row rfl 139 (.tmp 6) (.tmp 87) rfl (w.heap.size+1+1) _ rfl rfl 139 _ hr hi hold hone ?_))
 exact bodyPost_ret (results_cell_row rfl _ _ (w.heap.size+1+1) 139 C (0,0) _ rfl (setRow_heap _ _ _ _ _ _ hr) Tryz.underlying139 rfl hi) rfl HE.out

theorem Ji2(s:KS)(M:Nat)(op a b c n:Int)(w:World)(ho0:21<=op)(ho1:op<=30)(ha0:0<=a)(ha1:a < 8)(hb0:0<=b)(hb1:b < 8)(hc0:0<=c)(hc1:c < 8):
  Calls Tryz.prog 108 #[.pointer (some ⟨M,0,none⟩),.agg #[V op,V a,V b,V c,V n],.agg (kv s)] w fun e w'=>e=.returned (.agg (kv (setK s a (Kn.op (op - 20) (s b.toNat) (s c.toNat)))))/\More w w':=by
 suffices hP:∀P:Ending->World->Prop,(∀w',More w w'->P (.returned (.agg (kv (setK s a (Kn.op (op - 20) (s b.toNat) (s c.toNat)))))) w')->Calls Tryz.prog 108 #[.pointer (some ⟨M,0,none⟩),.agg #[V op,V a,V b,V c,V n],.agg (kv s)] w P from hP _ (fun w' m=>⟨rfl,m⟩)
 intro P hP0;have HP:Hid (∀w',More w w'->P (.returned (.agg (kv (setK s a (Kn.op (op - 20) (s b.toNat) (s c.toNat)))))) w'):=hP0;clear hP0;have e1:(op==1)=false:=by simp;omega
 have e2:(op==2)=false:=by simp;omega
 have e10:(op==10)=false:=by simp;omega
 have e3:(op==3)=false:=by simp;omega
 have e5:(op==5)=false:=by simp;omega
 have e11:(op==11)=false:=by simp;omega
 have e4:(op==4)=false:=by simp;omega
 have e6:(op==6)=false:=by simp;omega
 have e12:(op==12)=false:=by simp;omega
 obtain⟨W,HW⟩:∃W:World,Hid (W=((w.alloc (.cells #[V op,V a,V b,V c,V n] 41)).alloc (.cells (kv s) 139)).alloc (.cells #[V 0,.bool false,V 0,.bool false,V 0,.bool false,V 0,.bool false,V 0,.bool false,V 0,.bool false,V 0,.bool false,V 0,.bool false] 139)):=⟨_,rfl⟩
 have HB:Hid (Blk W w.heap.size #[V op,V a,V b,V c,V n] 41/\Blk W (w.heap.size+1) (kv s) 139/\Blk W (w.heap.size+1+1) (kv zeroK) 139/\More w W):=by
  rw[HW.out];refine⟨((Blk.last _ _ _).alloc _ _).alloc _ _,(by simpa using Blk.last (w.alloc (.cells #[V op,V a,V b,V c,V n] 41)) (kv s) 139:Blk _ (w.heap.size+1) _ _).alloc _ _,?_,(((More.refl _).alloc _ _).alloc _ _).alloc _ _⟩;rw[J3n];exact(by simpa using Blk.last ((w.alloc (.cells #[V op,V a,V b,V c,V n] 41)).alloc (.cells (kv s) 139)) #[V 0,.bool false,V 0,.bool false,V 0,.bool false,V 0,.bool false,V 0,.bool false,V 0,.bool false,V 0,.bool false,V 0,.bool false] 139)
 obtain⟨S,HS⟩:∃S:World->Prop,Hid (∀w',S w'↔More W w'):=⟨_,fun _=>Iff.rfl⟩;have HS0:S W.drew:=(HS.out _).2 (More.refl _).drew;have hne:Nonempty { w' // S w' }:=⟨⟨_,HS0⟩⟩;have k0:∀i:{ w' // S w' },i.val.cell? ⟨w.heap.size,0,none⟩=some (V op):=fun i=>(HB.out.1.more ((HS.out _).1 i.property)).cell rfl
 have k1:∀i:{ w' // S w' },i.val.cell? ⟨w.heap.size,1,none⟩=some (V a):=fun i=>(HB.out.1.more ((HS.out _).1 i.property)).cell rfl
 have k2:∀i:{ w' // S w' },i.val.cell? ⟨w.heap.size,2,none⟩=some (V b):=fun i=>(HB.out.1.more ((HS.out _).1 i.property)).cell rfl
 have k3:∀i:{ w' // S w' },i.val.cell? ⟨w.heap.size,3,none⟩=some (V c):=fun i=>(HB.out.1.more ((HS.out _).1 i.property)).cell rfl
 have k4:∀i:{ w' // S w' },i.val.cell? ⟨w.heap.size,4,none⟩=some (V n):=fun i=>(HB.out.1.more ((HS.out _).1 i.property)).cell rfl
 have ha8:a.toNat < 8:=by omega
 obtain⟨xb,hxb⟩:∃x,s b.toNat=x:=⟨_,rfl⟩;have hb8:b.toNat < 8:=by omega
 have kb0:∀i:{ w' // S w' },i.val.cell? ⟨w.heap.size+1,b.toNat*2,none⟩=some (V xb.b):=fun i=>by rw[(HB.out.2.1.more ((HS.out _).1 i.property)).cell (kv_at _ _ hb8).1,hxb]
 have kb1:∀i:{ w' // S w' },i.val.cell? ⟨w.heap.size+1,b.toNat*2+1,none⟩=some (.bool xb.s):=fun i=>by rw[(HB.out.2.1.more ((HS.out _).1 i.property)).cell (kv_at _ _ hb8).2,hxb]
 obtain⟨xc,hxc⟩:∃x,s c.toNat=x:=⟨_,rfl⟩;have hc8:c.toNat < 8:=by omega
 have kc0:∀i:{ w' // S w' },i.val.cell? ⟨w.heap.size+1,c.toNat*2,none⟩=some (V xc.b):=fun i=>by rw[(HB.out.2.1.more ((HS.out _).1 i.property)).cell (kv_at _ _ hc8).1,hxc]
 have kc1:∀i:{ w' // S w' },i.val.cell? ⟨w.heap.size+1,c.toNat*2+1,none⟩=some (.bool xc.s):=fun i=>by rw[(HB.out.2.1.more ((HS.out _).1 i.property)).cell (kv_at _ _ hc8).2,hxc]
 have hwr:IntKind.i64.wrap (op - 20)=op - 20:=by rw[IntKind.wrap_i64];omega
 obtain⟨v,hv⟩:∃v,Kn.op (op - 20) xb xc=v:=⟨_,rfl⟩;have c2:∀w:World,Calls Tryz.prog 133 #[V (op - 20),kn xb.b xb.s,kn xc.b xc.s] w fun e w'=>e=.returned (kn v.b v.s)/\More w w':=fun w=>hv▸J5e (op - 20) xb.b xc.b xb.s xc.s w
 have Hx:Hid (kv (setK s a ⟨v.b,v.s⟩)=kv (setK s a (Kn.op (op - 20) (s b.toNat) (s c.toNat)))):=by rw[hxb,hxc,hv];exact rfl
 clear hv hxb hxc;obtain⟨vb,vs⟩:=v;obtain⟨xbb,xbs⟩:=xb;obtain⟨xcb,xcs⟩:=xc;unfold kn at c2;dsimp only at c2 kb0 kb1 kc0 kc1;obtain⟨cs,hcs⟩:∃c,kv s=c:=⟨_,rfl⟩;have hcs16:cs.size=16:=hcs▸J0d s;rw[hcs]at HW;rw[hcs];clear hcs;go_enter Tryz.func108,Tryz.ntmps108;go_wp2_with (fail)
 rw[<-HW.out];clear hcs16;refine J0z (S:=S) [(0,true),(1,true),(2,true),(3,true),(4,true),(5,true),(6,true),(7,true),(8,true),(9,true),(10,true),(11,true),(12,true),(13,false),(14,true),(15,false)] (by kernel_rfl) (by kernel_rfl) (by kernel_rfl) HS0 ?_
 iterate 13 (refine J0i rfl (by kernel_rfl) (fun K hK=>?_);go_simp;refine hK _ _ ?_;clear hK K)
 refine J1z rfl (by kernel_rfl) (fun K hK=>?_);go_simp
 try rw[hwr]
 refine(c2 _).mono ?_;rintro e w2 ⟨rfl,m_⟩;have Hmw2:Hid (More W w2):=(More.refl W).drew.trans m_;clear m_
 go_simp
 refine hK _ _ ((HS.out _).2 Hmw2.out) ?_;clear hK K
 (refine J0i rfl (by kernel_rfl) (fun K hK=>?_);go_simp;refine hK _ _ ?_;clear hK K)
 have HR:Hid (Blk w2 (w.heap.size+1) (kv s) 139):=HB.out.2.1.more (Hmw2.out);have q0:=HR.out.cell (kv_at _ _ ha8).1;have q1:=HR.out.cell (kv_at _ _ ha8).2;have q2:=HR.out.frozen (a.toNat*2);have q3:=HR.out.frozen (a.toNat*2+1);obtain⟨wz,Hwz⟩:∃w_:World,Hid (w_=(w2.setCell ⟨w.heap.size+1,a.toNat*2,none⟩ (V vb)).setCell ⟨w.heap.size+1,a.toNat*2+1,none⟩ (.bool vs)):=⟨_,rfl⟩
 have F:Hid (Blk wz (w.heap.size+1) (kv (setK s a (Kn.op (op - 20) (s b.toNat) (s c.toNat)))) 139/\Blk wz (w.heap.size+1+1) (kv zeroK) 139/\More w wz):=by
  rw[Hwz.out];refine⟨?_,((HB.out.2.2.1.more (Hmw2.out)).other (by omega) _ _).other (by omega) _ _,((HB.out.2.2.2.trans (Hmw2.out)).setCell (by dsimp only;omega) _).setCell (by dsimp only;omega) _⟩;rw[<-Hx.out];exact HR.out.setK a vb vs ha8
 refine J20 rfl (by kernel_rfl) (by kernel_rfl) (fun K hK=>?_)
 go_simp
 rw[<-Hwz.out];refine hK _ _ ?_;clear hK K hne HS0 q0 q1 q2 q3 k0 k1 k2 k3 k4;refine NoPanic.normal ?_;obtain⟨C,hC⟩:∃C,kv (setK s a (Kn.op (op - 20) (s b.toNat) (s c.toNat)))=C:=⟨_,rfl⟩
 have HE:Hid (P (.returned (.agg C)) (wz.setRow (w.heap.size+1+1) C)):=by
  have:=HP.out (wz.setRow (w.heap.size+1+1) C) (F.out.2.2.setRow (by omega) C);rw[hC]at this;exact this
 have hb:wz.heap[w.heap.size+1]?=some (.cells C 139 (0,0)):=by
  have:=F.out.1;rw[hC]at this;exact this
 have hr:wz.heap[w.heap.size+1+1]?=some (.cells (kv zeroK) 139 (0,0)):=F.out.2.1;have hi:(Tryz.prog.info? 139).map (·.size)=some C.size:=by rw[<-hC];exact J1b _
 have hold:(kv zeroK).size=C.size:=by rw[<-hC,J0d,J0d]
 have hone:C.all (·.oneCell')=true:=by rw[<-hC];exact J2w _
 clear HP;go_wp2_with (first | (refine wpList_load_row rfl 139 (.tmp 5) rfl (w.heap.size+1) rfl 139 _ (0,0) _ hb Tryz.underlying139 rfl hi ?_) | (refine wpList_store_row rfl 139 (.tmp 6) (.tmp 87) rfl (w.heap.size+1+1) _ rfl rfl 139 _ hr hi hold hone ?_))
 exact bodyPost_ret (results_cell_row rfl _ _ (w.heap.size+1+1) 139 C (0,0) _ rfl (setRow_heap _ _ _ _ _ _ hr) Tryz.underlying139 rfl hi) rfl HE.out

theorem J88(ov_:Int)(hov_:ov_=4\/ov_=6\/ov_=12)(s:KS)(M:Nat)(a b c n:Int)(w:World):
  Calls Tryz.prog 108 #[.pointer (some ⟨M,0,none⟩),.agg #[V ov_,V a,V b,V c,V n],.agg (kv s)] w fun e w'=>e=.returned (.agg (kv (s)))/\More w w':=by
 suffices hP:∀P:Ending->World->Prop,(∀w',More w w'->P (.returned (.agg (kv (s)))) w')->Calls Tryz.prog 108 #[.pointer (some ⟨M,0,none⟩),.agg #[V ov_,V a,V b,V c,V n],.agg (kv s)] w P from hP _ (fun w' m=>⟨rfl,m⟩)
 intro P hP0;have HP:Hid (∀w',More w w'->P (.returned (.agg (kv (s)))) w'):=hP0;clear hP0;obtain⟨W,HW⟩:∃W:World,Hid (W=((w.alloc (.cells #[V ov_,V a,V b,V c,V n] 41)).alloc (.cells (kv s) 139)).alloc (.cells #[V 0,.bool false,V 0,.bool false,V 0,.bool false,V 0,.bool false,V 0,.bool false,V 0,.bool false,V 0,.bool false,V 0,.bool false] 139)):=⟨_,rfl⟩
 have HB:Hid (Blk W w.heap.size #[V ov_,V a,V b,V c,V n] 41/\Blk W (w.heap.size+1) (kv s) 139/\Blk W (w.heap.size+1+1) (kv zeroK) 139/\More w W):=by
  rw[HW.out];refine⟨((Blk.last _ _ _).alloc _ _).alloc _ _,(by simpa using Blk.last (w.alloc (.cells #[V ov_,V a,V b,V c,V n] 41)) (kv s) 139:Blk _ (w.heap.size+1) _ _).alloc _ _,?_,(((More.refl _).alloc _ _).alloc _ _).alloc _ _⟩;rw[J3n];exact(by simpa using Blk.last ((w.alloc (.cells #[V ov_,V a,V b,V c,V n] 41)).alloc (.cells (kv s) 139)) #[V 0,.bool false,V 0,.bool false,V 0,.bool false,V 0,.bool false,V 0,.bool false,V 0,.bool false,V 0,.bool false,V 0,.bool false] 139)
 rcases hov_ with rfl | rfl | rfl
 all_goals
  obtain⟨cs,hcs⟩:∃c,kv s=c:=⟨_,rfl⟩;have hcs16:cs.size=16:=hcs▸J0d s;rw[hcs]at HW;rw[hcs];clear hcs;obtain⟨C,hC⟩:∃C,kv (s)=C:=⟨_,rfl⟩
  have HE:Hid (P (.returned (.agg C)) (W.setRow (w.heap.size+1+1) C)):=by
   have:=HP.out (W.setRow (w.heap.size+1+1) C) (HB.out.2.2.2.setRow (by omega) C);rw[hC]at this;exact this
  have hb:W.heap[w.heap.size+1]?=some (.cells C 139 (0,0)):=by
   have:=HB.out.2.1;rw[hC]at this;exact this
  have hr:W.heap[w.heap.size+1+1]?=some (.cells (kv zeroK) 139 (0,0)):=HB.out.2.2.1;have hi:(Tryz.prog.info? 139).map (·.size)=some C.size:=by rw[<-hC];exact J1b _
  have hold:(kv zeroK).size=C.size:=by rw[<-hC,J0d,J0d]
  have hone:C.all (·.oneCell')=true:=by rw[<-hC];exact J2w _
  clear HP;go_enter Tryz.func108,Tryz.ntmps108;go_wp2_with (first | (rw[<-HW.out];refine wpList_load_row rfl 139 (.tmp 5) rfl (w.heap.size+1) rfl 139 _ (0,0) _ hb Tryz.underlying139 rfl hi ?_) | (refine wpList_store_row rfl 139 (.tmp 6) (.tmp 87) rfl (w.heap.size+1+1) _ rfl rfl 139 _ hr hi hold hone ?_))
  exact bodyPost_ret (results_cell_row rfl _ _ (w.heap.size+1+1) 139 C (0,0) _ rfl (setRow_heap _ _ _ _ _ _ hr) Tryz.underlying139 rfl hi) rfl HE.out

theorem Jc6(p:Prg)(s:KS)(M:Nat)(lo:Loc)(i:Ins)(w:World)(hM:w.cell? ⟨M,0,none⟩=some (.slice lo.ra p.rl lo.rc))(hp:PIn w p lo)(hi:InsOk p.rl p.log p.cl 8 i)(hn:-9223372036854775808<=i.n/\i.n<=9223372036854775807)
  (h7:¬i.op=7) (h8:¬i.op=8) (h9:¬i.op=9):
  Calls Tryz.prog 108 #[.pointer (some ⟨M,0,none⟩),.agg #[V i.op,V i.a,V i.b,V i.c,V i.n],.agg (kv s)] w fun e w'=>e=.returned (.agg (kv (nextK p i s)))/\More w w':=by
 obtain⟨op,a,b,c,n⟩:=i;dsimp only at *;unfold InsOk Reg Rgn Plc Wrd at hi;dsimp only at hi;by_cases h1:op=1
 ·subst h1
  simp at hi;exact Jk2 s M a b c n w (by omega) (by omega)
 by_cases h2:op=2
 ·subst h2
  simp at hi;exact Jk3 s M a b c n w (by omega) (by omega) (by omega) (by omega)
 by_cases h10:op=10
 ·subst h10
  simp at hi;exact Ji0 s M a b c n w (by omega) (by omega) (by omega) (by omega) hn.1 hn.2
 by_cases h3:op=3
 ·subst h3
  simp at hi;rw[hp.hr (by omega)]at hM;exact Jc5 3 (by decide) s M a b c n w lo.rb lo.ro p.rl lo.rc p.log p.sec hM hp.regs (by omega) (by omega) (by omega) (by omega)
 by_cases h5:op=5
 ·subst h5
  simp at hi;rw[hp.hr (by omega)]at hM;exact Jc5 5 (by decide) s M a b c n w lo.rb lo.ro p.rl lo.rc p.log p.sec hM hp.regs (by omega) (by omega) (by omega) (by omega)
 by_cases h11:op=11
 ·subst h11
  simp at hi;exact Ji1 s M a b c n w (by omega) (by omega) (by omega) (by omega)
 by_cases h4:op=4
 ·subst h4;exact J88 4 (by decide) s M a b c n w
 by_cases h6:op=6
 ·subst h6;exact J88 6 (by decide) s M a b c n w
 by_cases h12:op=12
 ·subst h12;exact J88 12 (by decide) s M a b c n w
 ·have e:nextK p ⟨op,a,b,c,n⟩ s=setK s a (Kn.op (op - 20) (s b.toNat) (s c.toNat)):=by
   unfold nextK;dsimp only;rw[if_neg h1,if_neg h2,if_neg h10,if_neg (by omega),if_neg h11,if_neg (by omega)]
  rw[e];simp[h1,h2,h3,h4,h5,h6,h7,h8,h9,h10,h11,h12]at hi;exact Ji2 s M op a b c n w (by omega) (by omega) (by omega) (by omega) (by omega) (by omega) (by omega) (by omega)
end
end Go.Proofs.YtephohhigbfafaaGreatDoor
