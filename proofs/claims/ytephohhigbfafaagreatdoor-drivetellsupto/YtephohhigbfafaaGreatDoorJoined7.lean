/-
  The texts HdMake, DrHard, ScriptD, Mach, Meth, Begin, Part, SMap, Fits, NewAux, SMach, SMeth, SBuilt, SBack, one behind the other, with what is used of them.
-/
import Derived.Test.YtephohhigbfafaaGreatDoorJoined3
import Derived.Test.YtephohhigbfafaaGreatDoorJoined6
import Derived.Test.YtephohhigbfafaaGreatDoorJoined5
import Derived.Test.YtephohhigbfafaaGreatDoorJoined0
import Derived.WalkKit
import Derived.Deep.LoopGhost
import Derived.Test.YtephohhigbfafaaGreatDoorJoined2
import Derived.Test.YtephohhigbfafaaGreatDoorRows
import Derived.Deep.OwnRows
import Derived.Test.YtephohhigbfafaaGreatDoorJoined1
import Derived.Laws.IdiomCopy
import Derived.DeepKeys4
import Derived.Maps.Own
import Derived.Test.YtephohhigbfafaaGreatDoorJoined4
namespace Go.Proofs.YtephohhigbfafaaGreatDoor
set_option maxHeartbeats 4000000
section
open Go.RowKit
set_option linter.unusedSimpArgs false
set_option linter.unusedVariables false
set_option maxRecDepth 8000
abbrev prgV(p:Prg)(l:Loc):Value:=.agg #[.slice l.ra p.rl l.rc,.slice l.ca p.cl l.cc]

theorem RegsAt.other{w:World}{b o rl:Nat}{log:Nat->Int}{sec:Nat->Bool}(h:RegsAt w b o rl log sec){b':Nat}(hb:b'≠b)(o':Nat)(v:Value):RegsAt (w.setCell ⟨b',o',none⟩ v) b o rl log sec:=fun i hi=>
  ⟨by rw[World.cell?_setCell_other _ _ _ _ (by intro e;simp only[Addr.mk.injEq]at e;exact hb e.1)];exact(h i hi).1,by rw[World.cell?_setCell_other _ _ _ _ (by intro e;simp only[Addr.mk.injEq]at e;exact hb e.1)];exact(h i hi).2⟩
theorem CodeAt.other{w:World}{b o cl:Nat}{ins:Nat->Ins}(h:CodeAt w b o cl ins){b':Nat}(hb:b'≠b)(o':Nat)(v:Value):CodeAt (w.setCell ⟨b',o',none⟩ v) b o cl ins:=fun i hi=>by
  have k:∀x,(w.setCell ⟨b',o',none⟩ v).cell? ⟨b,x,none⟩=w.cell? ⟨b,x,none⟩:=fun x=>World.cell?_setCell_other _ _ _ _ (by intro e;simp only[Addr.mk.injEq]at e;exact hb e.1)
  rw[k,k,k,k,k];exact h i hi

def Made(p:Prg)(w:World)(e:Ending)(w':World):Prop:=
  ∃f:Int × Int,Told p f/\More w w'/\
    ((f.1=0/\∃lh:Loc,PIn w' (hardP p) lh/\e=.returned (.tuple #[prgV (hardP p) lh,.agg #[V 0,V 0]]))\/
     (¬f.1=0/\e=.returned (.tuple #[.agg #[.slice none 0 0,.slice none 0 0],.agg #[V f.1,V f.2]])))
def MadeO(p:Prg)(w:World)(e:Ending)(w':World):Prop:=
  ∃f:Int × Int,Told p f/\More w w'/\
    ((f.1=0/\∃lh:Loc,PIn w' (hardP p) lh/\e=.returned (.tuple #[prgV (hardP p) lh,.agg #[V 0,V 0]])/\RowT 76 2 w.heap.size w' (.slice lh.ra (hardP p).rl lh.rc) (hardP p).rl/\RowT 41 5 w.heap.size w' (.slice lh.ca (hardP p).cl lh.cc) (hardP p).cl)\/
     (¬f.1=0/\e=.returned (.tuple #[.agg #[.slice none 0 0,.slice none 0 0],.agg #[V f.1,V f.2]])))

theorem Jba(p:Prg)(l:Loc)(w:World)(hp:PIn w p l)(hf:p.Fit):Calls Tryz.prog 16 #[prgV p l] w (MadeO p w):=by
  unfold prgV;have C1:Hid (∀w1:World,More w w1->Calls Tryz.prog 14 #[.agg #[.slice l.ra p.rl l.rc,.slice l.ca p.cl l.cc]] w1 fun e w'=>∃f:Int × Int,Told p f/\e=.returned (.agg #[V f.1,V f.2])/\More w1 w'):=fun w1 m1=>J6t p l w1 (hp.more m1) hf
  have C2:Hid (p.Ok 200 8->∀w1:World,More w w1->Calls Tryz.prog 36 #[.slice l.ra p.rl l.rc] w1 fun e w'=>∃(a':Option Addr) (g c':Nat),e=.returned (.slice a' p.rl c')/\(0 < p.rl->a'=some ⟨g,0,none⟩)/\w1.heap.size<=g/\RegsAt w' g 0 p.rl p.log p.sec/\RowT 76 2 w1.heap.size w' (.slice a' p.rl c') p.rl/\More w1 w'):=fun ok w1 m1=>
    Ji6 l.ra p.rl l.rc l.rb l.ro p.log p.sec w1 hp.hr (hp.regs.more m1) ok.1.1
  have C3:Hid (p.Ok 200 8->∀w1:World,More w w1->Calls Tryz.prog 37 #[.agg #[.slice l.ra p.rl l.rc,.slice l.ca p.cl l.cc]] w1 fun e w'=>∃gc cap,e=.returned (.slice (some ⟨gc,0,none⟩) (J0c p p.cl) cap)/\w1.heap.size<=gc/\CodeAt w' gc 0 (J0c p p.cl) (hardL p)/\RowT 41 5 w1.heap.size w' (.slice (some ⟨gc,0,none⟩) (J0c p p.cl) cap) (J0c p p.cl)/\More w1 w'):=fun ok w1 m1=>Jcf p l w1 (hp.more m1) ok
  clear hp hf;obtain⟨ra,Hra⟩:∃x,Hid (l.ra=x):=⟨_,rfl⟩;obtain⟨rl,Hrl⟩:∃x,Hid (p.rl=x):=⟨_,rfl⟩;obtain⟨rc,Hrc⟩:∃x,Hid (l.rc=x):=⟨_,rfl⟩;obtain⟨ca,Hca⟩:∃x,Hid (l.ca=x):=⟨_,rfl⟩;obtain⟨cl,Hcl⟩:∃x,Hid (p.cl=x):=⟨_,rfl⟩;obtain⟨cc,Hcc⟩:∃x,Hid (l.cc=x):=⟨_,rfl⟩;obtain⟨sn,Hsn⟩:∃x,Hid (J0c p p.cl=x):=⟨_,rfl⟩;rw[Hsn.out]at C3;rw[Hra.out,Hrl.out,Hrc.out,Hca.out,Hcl.out,Hcc.out]at C1 C3 |-;rw[Hra.out,Hrl.out,Hrc.out]at C2;go_enter Tryz.func16,Tryz.ntmps16;obtain⟨W0,HW0⟩:∃W:World,Hid (W=((w.alloc (.cells #[.slice ra rl rc,.slice ca cl cc] 28)).alloc (.cells #[.slice none 0 0,.slice none 0 0] 28)).alloc (.cells #[V 0,V 0] 52)):=⟨_,rfl⟩;have Hm0:Hid (More w W0):=HW0.out▸(((More.refl _).alloc _ _).alloc _ _).alloc _ _;have B0:Hid (Blk W0 w.heap.size #[.slice ra rl rc,.slice ca cl cc] 28):=HW0.out▸(((Blk.last _ _ _).alloc _ _).alloc _ _);have B1:Hid (Blk W0 (w.heap.size+1) #[.slice none 0 0,.slice none 0 0] 28):=HW0.out▸((by simpa using Blk.last (w.alloc (.cells #[.slice ra rl rc,.slice ca cl cc] 28)) #[.slice none 0 0,.slice none 0 0] 28:Blk _ (w.heap.size+1) _ _).alloc _ _)
  have B2:Hid (Blk W0 (w.heap.size+1+1) #[V 0,V 0] 52):=HW0.out▸(by simpa using Blk.last ((w.alloc (.cells #[.slice ra rl rc,.slice ca cl cc] 28)).alloc (.cells #[.slice none 0 0,.slice none 0 0] 28)) #[V 0,V 0] 52:Blk _ (w.heap.size+1+1) _ _);go_wp2_with (fail)
  rw[<-HW0.out];refine(C1.out W0 Hm0.out).mono ?_;rintro e w1 ⟨⟨f1,f2⟩,hT,rfl,m1⟩;dsimp only;have HT:Hid (Told p (f1,f2)):=hT;have Hm1:Hid (More W0 w1):=m1;clear hT m1 C1;obtain⟨W,HW⟩:∃W:World,Hid (W=w1.alloc (.cells #[V f1,V f2] 52)):=⟨_,rfl⟩;have HmW:Hid (More W0 W):=by rw[HW.out];exact Hm1.out.alloc _ _
  have D0:Hid (Blk W w.heap.size #[.slice ra rl rc,.slice ca cl cc] 28):=B0.out.more HmW.out;have D1:Hid (Blk W (w.heap.size+1) #[.slice none 0 0,.slice none 0 0] 28):=B1.out.more HmW.out;have D2:Hid (Blk W (w.heap.size+1+1) #[V 0,V 0] 52):=B2.out.more HmW.out;have D3:Hid (Blk W w1.heap.size #[V f1,V f2] 52):=by rw[HW.out];exact Blk.last _ _ _
  have Hz1:Hid (w.heap.size+3<=w1.heap.size):=by
    have h1:=(B2.out.more Hm1.out).lt;show _<=_;omega
  by_cases h0:f1=0
  · subst h0
    obtain⟨hok,lk,hk,hk0⟩:=HT.out.ok rfl;have HO:Hid (p.Ok 200 8):=hok;clear hok hk hk0;have C2':Hid (∀w1:World,More w w1->Calls Tryz.prog 36 #[.slice ra rl rc] w1 fun e w'=>∃(a':Option Addr) (g c':Nat),e=.returned (.slice a' rl c')/\(0 < rl->a'=some ⟨g,0,none⟩)/\w1.heap.size<=g/\RegsAt w' g 0 rl p.log p.sec/\RowT 76 2 w1.heap.size w' (.slice a' rl c') rl/\More w1 w'):=C2.out HO.out;have C3':Hid (∀w1:World,More w w1->Calls Tryz.prog 37 #[.agg #[.slice ra rl rc,.slice ca cl cc]] w1 fun e w'=>∃gc cap,e=.returned (.slice (some ⟨gc,0,none⟩) sn cap)/\w1.heap.size<=gc/\CodeAt w' gc 0 sn (hardL p)/\RowT 41 5 w1.heap.size w' (.slice (some ⟨gc,0,none⟩) sn cap) sn/\More w1 w'):=C3.out HO.out;clear C2 C3;obtain⟨S,HS⟩:∃S:World->Prop,Hid (∀w',S w'↔Blk w' w.heap.size #[.slice ra rl rc,.slice ca cl cc] 28):=⟨_,fun _=>Iff.rfl⟩;have HS0:S W.drew:=(HS.out _).2 D0.out;have k0:∀i:{ w' // S w' },i.val.cell? ⟨w.heap.size,0,none⟩=some (.slice ra rl rc):=fun i=>((HS.out _).1 i.property).cell rfl
    have k1:∀i:{ w' // S w' },i.val.cell? ⟨w.heap.size,1,none⟩=some (.slice ca cl cc):=fun i=>((HS.out _).1 i.property).cell rfl
    have hne:Nonempty { w' // S w' }:=⟨⟨_,HS0⟩⟩;go_wp2_with (fail)
    rw[<-HW.out];refine J04 (S:=S) [(0,true),(1,true),(3,true),(6,true),(2,false),(4,false),(5,true),(7,false),(8,false)] (by kernel_rfl) (by kernel_rfl) (by kernel_rfl) HS0 ?_
    iterate 4 (refine J00 rfl (by kernel_rfl) (fun K hK=>?_);go_simp;refine hK _ _ ?_;clear hK K)
    refine J03 rfl (by kernel_rfl) (fun K hK=>?_);go_simp;have HmD:Hid (More w W.drew):=(Hm0.out.trans HmW.out).drew;refine(C2'.out _ HmD.out).mono ?_;rintro e w2 ⟨a',g,c',rfl,ha',hg,hregs,hrow2,m2⟩;have Hrow2:Hid (RowT 76 2 w.heap.size w2 (.slice a' rl c') rl):=hrow2.low (by have:=HmD.out.size;omega);have Hm2:Hid (More W w2):=(More.refl W).drew.trans m2;have Hreg2:Hid ((0 < rl->a'=some ⟨g,0,none⟩)/\W.heap.size<=g/\RegsAt w2 g 0 rl p.log p.sec):=⟨ha',hg,hregs⟩;clear ha' hg hregs m2 hrow2
    go_simp
    refine hK _ _ ((HS.out _).2 (D0.out.more Hm2.out)) ?_;clear hK K;refine J03 rfl (by kernel_rfl) (fun K hK=>?_);go_simp;refine(C3'.out w2 ((Hm0.out.trans HmW.out).trans Hm2.out)).mono ?_;rintro e w3 ⟨gc,cap,rfl,hgc,hcode,hrow3,m3⟩;have Hrow3:Hid (RowT 76 2 w.heap.size w3 (.slice a' rl c') rl/\RowT 41 5 w.heap.size w3 (.slice (some ⟨gc,0,none⟩) sn cap) sn):=⟨Hrow2.out.more m3,hrow3.low (by have:=((Hm0.out.trans HmW.out).trans Hm2.out).size;omega)⟩;have Hm3:Hid (More W w3):=Hm2.out.trans m3;have Hreg3:Hid (RegsAt w3 g 0 rl p.log p.sec):=Hreg2.out.2.2.more m3;have Hcode3:Hid (W.heap.size<=gc/\CodeAt w3 gc 0 sn (hardL p)):=⟨Nat.le_trans Hm2.out.size hgc,hcode⟩;clear hgc hcode m3 hrow3;have E1:Hid (Blk w3 (w.heap.size+1) #[.slice none 0 0,.slice none 0 0] 28):=D1.out.more Hm3.out;have E2:Hid (Blk w3 (w.heap.size+1+1) #[V 0,V 0] 52):=D2.out.more Hm3.out;have a0:w3.cell? ⟨w.heap.size+1,0,none⟩=some (.slice none 0 0):=E1.out.cell rfl;have a1:w3.cell? ⟨w.heap.size+1,1,none⟩=some (.slice none 0 0):=E1.out.cell rfl;have a2:w3.cell? ⟨w.heap.size+1+1,0,none⟩=some (V 0):=E2.out.cell rfl;have a3:w3.cell? ⟨w.heap.size+1+1,1,none⟩=some (V 0):=E2.out.cell rfl;have z0:=E1.out.frozen 0;have z1:=E1.out.frozen 1;have z2:=E2.out.frozen 0;have z3:=E2.out.frozen 1
    go_simp
    refine hK _ _ ((HS.out _).2 (D0.out.more Hm3.out)) ?_;clear hK K;refine J00 rfl (by kernel_rfl) (fun K hK=>?_);go_simp;refine hK _ _ ?_;clear hK K;refine J03 rfl (by kernel_rfl) (fun K hK=>?_);go_simp;refine hK _ _ ((HS.out _).2 (((D0.out.more Hm3.out).other (by omega) _ _).other (by omega) _ _)) ?_;clear hK K;refine J03 rfl (by kernel_rfl) (fun K hK=>?_);go_simp;refine hK _ _ ((HS.out _).2 (((((D0.out.more Hm3.out).other (by omega) _ _).other (by omega) _ _).other (by omega) _ _).other (by omega) _ _)) ?_;clear hK K;refine J06 ?_;clear k0 k1 hne HS0;go_wp2;refine bodyPost_ret (v:=.tuple #[.agg #[.slice a' rl c',.slice (some ⟨gc,0,none⟩) sn cap],.agg #[V 0,V 0]]) (by simp[results,Tryz.results16,go_sem, *]) rfl ?_;have hzW:=HmW.out.size;have hz0:=(D2.out).lt;have hg:=Hreg2.out.2.1;have hgc:=Hcode3.out.1;refine⟨(0,f2),HT.out,?_,.inl ⟨rfl,⟨a',g,0,c',some ⟨gc,0,none⟩,gc,0,cap⟩,⟨?_,fun _=>rfl,?_,?_⟩,?_,?_,?_⟩⟩
    · exact((((((Hm0.out.trans HmW.out).trans Hm3.out).setCell (by show w.heap.size<=_;simp) _).setCell (by show w.heap.size<=_;simp) _).setCell (by show w.heap.size<=_;simp;omega) _).setCell (by show w.heap.size<=_;simp;omega) _)
    · intro h
      exact Hreg2.out.1 (by rw[<-Hrl.out];exact h)
    · have:=(((Hreg3.out.other (b':=w.heap.size+1) (by omega) 0 (.slice a' rl c')).other (b':=w.heap.size+1) (by omega) 1 (.slice (some ⟨gc,0,none⟩) sn cap)).other (b':=w.heap.size+1+1) (by omega) 0 (V 0)).other (b':=w.heap.size+1+1) (by omega) 1 (V 0)
      rw[<-Hrl.out]at this |-;exact this
    · have:=(((Hcode3.out.2.other (b':=w.heap.size+1) (by omega) 0 (.slice a' rl c')).other (b':=w.heap.size+1) (by omega) 1 (.slice (some ⟨gc,0,none⟩) sn cap)).other (b':=w.heap.size+1+1) (by omega) 0 (V 0)).other (b':=w.heap.size+1+1) (by omega) 1 (V 0)
      rw[<-Hsn.out]at this |-;exact this
    · unfold prgV hardP
      dsimp only;rw[Hrl.out,Hsn.out]
    · have:=(((Hrow3.out.1.put (w.heap.size+1) 0 (.slice a' rl c')).put (w.heap.size+1) 1 (.slice (some ⟨gc,0,none⟩) sn cap)).put (w.heap.size+1+1) 0 (V 0)).put (w.heap.size+1+1) 1 (V 0)
      rw[<-Hrl.out]at this |-;exact this
    · have:=(((Hrow3.out.2.put (w.heap.size+1) 0 (.slice a' rl c')).put (w.heap.size+1) 1 (.slice (some ⟨gc,0,none⟩) sn cap)).put (w.heap.size+1+1) 0 (V 0)).put (w.heap.size+1+1) 1 (V 0)
      rw[<-Hsn.out]at this |-;exact this
  · have e0:(f1==0)=false:=by simp[h0]
    have e1:(f1 != 0)=true:=by simp[h0]
    have H0:Hid (¬f1=0):=h0;clear h0 C2 C3;obtain⟨S,HS⟩:∃S:World->Prop,Hid (∀w',S w'↔Blk w' w1.heap.size #[V f1,V f2] 52):=⟨_,fun _=>Iff.rfl⟩;have HS0:S W.drew:=(HS.out _).2 D3.out;have k0:∀i:{ w' // S w' },i.val.cell? ⟨w1.heap.size,0,none⟩=some (V f1):=fun i=>((HS.out _).1 i.property).cell rfl
    have k1:∀i:{ w' // S w' },i.val.cell? ⟨w1.heap.size,1,none⟩=some (V f2):=fun i=>((HS.out _).1 i.property).cell rfl
    have hne:Nonempty { w' // S w' }:=⟨⟨_,HS0⟩⟩;have hz1:=Hz1.out;have a0:W.cell? ⟨w.heap.size+1,0,none⟩=some (.slice none 0 0):=D1.out.cell rfl;have a1:W.cell? ⟨w.heap.size+1,1,none⟩=some (.slice none 0 0):=D1.out.cell rfl;have a2:W.cell? ⟨w.heap.size+1+1,0,none⟩=some (V 0):=D2.out.cell rfl;have a3:W.cell? ⟨w.heap.size+1+1,1,none⟩=some (V 0):=D2.out.cell rfl;have z0:=D1.out.frozen 0;have z1:=D1.out.frozen 1;have z2:=D2.out.frozen 0;have z3:=D2.out.frozen 1;go_wp2_with (fail)
    rw[<-HW.out];refine J04 (S:=S) [(0,true),(1,true),(2,false),(3,false)] (by kernel_rfl) (by kernel_rfl) (by kernel_rfl) HS0 ?_
    iterate 2 (refine J00 rfl (by kernel_rfl) (fun K hK=>?_);go_simp;refine hK _ _ ?_;clear hK K)
    refine J03 rfl (by kernel_rfl) (fun K hK=>?_);go_simp;refine hK _ _ ((HS.out _).2 ((D3.out.other (by omega) _ _).other (by omega) _ _)) ?_;clear hK K;refine J03 rfl (by kernel_rfl) (fun K hK=>?_);go_simp;refine hK _ _ ((HS.out _).2 ((((D3.out.other (by omega) _ _).other (by omega) _ _).other (by omega) _ _).other (by omega) _ _)) ?_;clear hK K;refine J06 ?_;clear k0 k1 hne HS0;go_wp2;refine bodyPost_ret (v:=.tuple #[.agg #[.slice none 0 0,.slice none 0 0],.agg #[V f1,V f2]]) (by simp[results,Tryz.results16,go_sem, *]) rfl ?_;refine⟨(f1,f2),HT.out,?_,.inr ⟨H0.out,rfl⟩⟩;exact(((((Hm0.out.trans HmW.out).setCell (by show w.heap.size<=_;simp) _).setCell (by show w.heap.size<=_;simp) _).setCell (by show w.heap.size<=_;simp;omega) _).setCell (by show w.heap.size<=_;simp;omega) _).drew

theorem Jh8(p:Prg)(l:Loc)(w:World)(hp:PIn w p l)(hf:p.Fit):Calls Tryz.prog 16 #[prgV p l] w (Made p w):=by
  refine(Jba p l w hp hf).mono ?_;rintro e w' ⟨f,h1,h2,h | h⟩
  · obtain⟨h0,lh,a,b,_⟩:=h
    exact⟨f,h1,h2,.inl ⟨h0,lh,a,b⟩⟩
  · exact⟨f,h1,h2,.inr h⟩
theorem Jly{w:World}{p:Prg}{l:Loc}{B:Nat}{T:TypeId}{rs:List (Int × Bool)}(hp:PIn w p l)(hl:p.rl=rs.length)(e:∀i r,rs[i]?=some r->p.log i=r.1/\p.sec i=r.2)(R:RowT T 2 B w (.slice l.ra p.rl l.rc) p.rl):w.ownsRow B T 2 (.slice l.ra p.rl l.rc) rs.length (celR rs):=by
 have h:=R.own (celR rs) (by rw[J35,hl]) (fun g hg j u hu=>?_)
 ·rw[hl]at h |-;exact h
 ·have hj:j < rs.length*2:=by rw[<-J35];exact(List.getElem?_eq_some_iff.1 hu).1
  have hi:j / 2 < rs.length:=by omega
  obtain⟨ra,rb,ro,rc,ca,cb,co,cc⟩:=l;have h1:=hp.hr (by omega);dsimp only at h1 hg;subst h1;rcases R with⟨q,_⟩ | ⟨g',cap,cur,q,_⟩
  ·cases q
  ·cases q
   obtain rfl:rb=g:=by simpa[Value.ownBlock]using hg
   obtain⟨c0,c1⟩:=hp.regs (j / 2) (by omega);obtain⟨e0,e1⟩:=e (j / 2) _ (List.getElem?_eq_getElem hi);obtain⟨a0,a1⟩:=Jdq rs (j / 2) _ (List.getElem?_eq_getElem hi);dsimp only at c0 c1;rw[e0,Nat.zero_add]at c0;rw[e1,Nat.zero_add]at c1;have hm:j=j / 2*2\/j=j / 2*2+1:=by omega
   rcases hm with hm | hm
   ·rw[hm]at hu |-
    rw[a0]at hu;rw[c0,hu]
   ·rw[hm]at hu |-
    rw[a1]at hu;rw[c1,hu]
theorem Jk7{w:World}{p:Prg}{l:Loc}{B:Nat}{T:TypeId}{cs:List Ins}(hp:PIn w p l)(hl:p.cl=cs.length)(e:∀i r,cs[i]?=some r->p.ins i=r)(R:RowT T 5 B w (.slice l.ca p.cl l.cc) p.cl):w.ownsRow B T 5 (.slice l.ca p.cl l.cc) cs.length (celI cs):=by
 have h:=R.own (celI cs) (by rw[J34,hl]) (fun g hg j u hu=>?_)
 ·rw[hl]at h |-;exact h
 ·have hj:j < cs.length*5:=by rw[<-J34];exact(List.getElem?_eq_some_iff.1 hu).1
  have hi:j / 5 < cs.length:=by omega
  obtain⟨ra,rb,ro,rc,ca,cb,co,cc⟩:=l;have h1:=hp.hc (by omega);dsimp only at h1 hg;subst h1;rcases R with⟨q,_⟩ | ⟨g',cap,cur,q,_⟩
  ·cases q
  ·cases q
   obtain rfl:cb=g:=by simpa[Value.ownBlock]using hg
   obtain⟨c0,c1,c2,c3,c4⟩:=hp.code (j / 5) (by omega);have e0:=e (j / 5) _ (List.getElem?_eq_getElem hi);obtain⟨a0,a1,a2,a3,a4⟩:=Jdp cs (j / 5) _ (List.getElem?_eq_getElem hi);dsimp only at c0 c1 c2 c3 c4;rw[e0,Nat.zero_add]at c0 c1 c2 c3 c4;have hm:j=j / 5*5\/j=j / 5*5+1\/j=j / 5*5+2\/j=j / 5*5+3\/j=j / 5*5+4:=by omega
   rcases hm with hm | hm | hm | hm | hm
   ·rw[hm]at hu |-
    rw[a0]at hu;rw[c0,hu]
   ·rw[hm]at hu |-
    rw[a1]at hu;rw[c1,hu]
   ·rw[hm]at hu |-
    rw[a2]at hu;rw[c2,hu]
   ·rw[hm]at hu |-
    rw[a3]at hu;rw[c3,hu]
   ·rw[hm]at hu |-
    rw[a4]at hu;rw[c4,hu]
theorem Jg0{x:Sta}{w':World}{lh:Loc}{B:Nat}(hp:PIn w' (hardP x.prg) lh)(r1:RowT 76 2 B w' (.slice lh.ra (hardP x.prg).rl lh.rc) (hardP x.prg).rl)(r2:RowT 41 5 B w' (.slice lh.ca (hardP x.prg).cl lh.cc) (hardP x.prg).cl):
  w'.ownsRow B 76 2 (.slice lh.ra x.rs.length lh.rc) x.rs.length (celR x.rs)/\w'.ownsRow B 41 5 (.slice lh.ca (J0c x.prg x.prg.cl) lh.cc) (hardC x.prg).length (celI (hardC x.prg)):=by
 refine⟨Jly (rs:=x.rs) hp rfl (fun i r hr=>?_) r1,Jk7 (cs:=hardC x.prg) hp (J4o _).symm (fun i r hr=>?_) r2⟩
 ·show(x.rs.getD i (0,false)).1=_/\(x.rs.getD i (0,false)).2=_
  rw[List.getD_eq_getElem?_getD,hr];exact⟨rfl,rfl⟩
 ·have hi:i < J0c x.prg x.prg.cl:=by rw[<-J4o];exact(List.getElem?_eq_some_iff.1 hr).1
  rw[Jku _ hi]at hr;exact Option.some.inj hr
theorem Jce{B G:Nat}{x:Sta}{rv cv mv:Value}(w:World)(h:Dp B G x rv cv mv w)(hw:Wf x)(HL0:LaiG G w):
  Calls Tryz.prog 52 #[.pointer (some ⟨G,0,none⟩)] w fun e w'=>∃y r,e=.returned (.string (txt r))/\J9u [] x y r/\DAns B G w y w':=by
 suffices hP:∀P:Ending->World->Prop,(∀y r w',J9u [] x y r->DAns B G w y w'->P (.returned (.string (txt r))) w')->Calls Tryz.prog 52 #[.pointer (some ⟨G,0,none⟩)] w P from hP _ (fun y a w' h m=>⟨y,a,rfl,h,m⟩)
 intro P hP0;have HP:Hid (∀y r w',J9u [] x y r->DAns B G w y w'->P (.returned (.string (txt r))) w'):=hP0;have HL:Hid (LaiG G w):=HL0;clear hP0;obtain⟨lp,rfl,rfl,hpin⟩:=h.pin;have CM:Hid (Calls Tryz.prog 16 #[.agg #[.slice lp.ra x.rs.length lp.rc,.slice lp.ca x.cs.length lp.cc]] w (MadeO x.prg w)):=Jba x.prg lp w hpin hw.fit;have H:Hid (Dp B G x (.slice lp.ra x.rs.length lp.rc) (.slice lp.ca x.cs.length lp.cc) mv w):=h;have Hw:Hid (Wf x):=hw;obtain⟨ra,Hra⟩:∃z,Hid (lp.ra=z):=⟨_,rfl⟩;obtain⟨rc,Hrc⟩:∃z,Hid (lp.rc=z):=⟨_,rfl⟩;obtain⟨rl,Hrl⟩:∃z,Hid (x.rs.length=z):=⟨_,rfl⟩;obtain⟨ca,Hca⟩:∃z,Hid (lp.ca=z):=⟨_,rfl⟩;obtain⟨cc,Hcc⟩:∃z,Hid (lp.cc=z):=⟨_,rfl⟩;obtain⟨cl,Hcl⟩:∃z,Hid (x.cs.length=z):=⟨_,rfl⟩;rw[Hra.out,Hrc.out,Hrl.out,Hca.out,Hcc.out,Hcl.out]at H CM;have b0:w.cell? ⟨G,0,none⟩=some (.slice ra rl rc):=H.out.blk.cell rfl;have b1:w.cell? ⟨G,1,none⟩=some (.slice ca cl cc):=H.out.blk.cell rfl;have hGw:G < w.heap.size:=H.out.blk.lt;clear h hw HL0 hpin;go_enter Tryz.func52,Tryz.ntmps52;go_wp2_with (fail)
 refine CM.out.mono ?_;rintro e w1 ⟨f,ht,m1,⟨h0,lh,hpin,rfl,r1,r2⟩ | ⟨h0,rfl⟩⟩
 ·have Hown:Hid (w1.ownsRow B 76 2 (.slice lh.ra x.rs.length lh.rc) x.rs.length (celR x.rs)/\w1.ownsRow B 41 5 (.slice lh.ca (J0c x.prg x.prg.cl) lh.cc) (hardC x.prg).length (celI (hardC x.prg))):=Jg0 hpin (r1.low (by have:=H.out.lo;omega)) (r2.low (by have:=H.out.lo;omega))
  have hv:prgV (hardP x.prg) lh=.agg #[.slice lh.ra x.rs.length lh.rc,.slice lh.ca (J0c x.prg x.prg.cl) lh.cc]:=rfl;rw[hv];have Hf:Hid (Told x.prg f/\f.1=0):=⟨ht,h0⟩;have Hm1:=J02 m1;clear CM ht h0 hpin r1 r2 m1 hv;obtain⟨n,Hn⟩:∃z,Hid (J0c x.prg x.prg.cl=z):=⟨_,rfl⟩;obtain⟨a1,Ha1⟩:∃z,Hid (lh.ra=z):=⟨_,rfl⟩;obtain⟨a2,Ha2⟩:∃z,Hid (lh.rc=z):=⟨_,rfl⟩;obtain⟨a3,Ha3⟩:∃z,Hid (lh.ca=z):=⟨_,rfl⟩;obtain⟨a4,Ha4⟩:∃z,Hid (lh.cc=z):=⟨_,rfl⟩;rw[Ha1.out,Ha2.out,Ha3.out,Ha4.out,Hn.out]at Hown |-;rw[Hrl.out];rw[Hrl.out]at Hown;have Q1:Hid (Dp B G x (.slice ra rl rc) (.slice ca cl cc) mv w1):=H.out.more Hm1.out;have c0:w1.cell? ⟨G,0,none⟩=some (.slice ra rl rc):=Q1.out.blk.cell rfl;have c1:w1.cell? ⟨G,1,none⟩=some (.slice ca cl cc):=Q1.out.blk.cell rfl;have z0:=Q1.out.blk.frozen 0;have z1:=Q1.out.blk.frozen 1;have hG1:=Q1.out.blk.lt;clear b0 b1 hGw;obtain⟨W0,HW0⟩:∃w_:World,Hid (w_=(w1.setCell ⟨G,0,none⟩ (.slice a1 rl a2)).setCell ⟨G,1,none⟩ (.slice a3 n a4)):=⟨_,rfl⟩
  have HD:Hid (DAns B G w ⟨x.rs,hardC x.prg,x.ms⟩ W0/\W0.heap.size=w1.heap.size):=by
   have hp:=Q1.out.newP (rs':=x.rs) (cs':=hardC x.prg) (rv':=.slice a1 rl a2) (cv':=.slice a3 n a4) (by rw[Hrl.out];exact Hown.out.1) Hown.out.2;have hB:Blk (w1.setCell ⟨G,0,none⟩ (.slice a1 rl a2)) G #[.slice a1 rl a2,.slice ca cl cc,mv] 63:=by simpa using Q1.out.blk.put 0 (.slice a1 rl a2)
   rw[HW0.out];refine⟨⟨⟨_,_,_,hp⟩,?_,((Spar.of Hm1.out).set Q1.out.blk own5P _ _).set hB own5P _ _⟩,by simp[World.setCell]⟩;exact((Below.mono Hm1.out (Nat.le_of_lt H.out.blk.lt)).setCell (p:=⟨G,0,none⟩) (Nat.le_refl _) _).setCell (p:=⟨G,1,none⟩) (Nat.le_refl _) _
  have HL6:Hid (Lai W0):=(HL.out.low HD.out.1.low).toLai
  have hn6:n<=600:=by
   have h1:=J2o x.prg x.prg.cl;have h2:=((Hf.out.1.ok Hf.out.2).1).2.2.1;rw[<-Hn.out];omega
  have CD:Hid (∀(w1:World) (b:Nat) (T:TypeId),More W0 w1->Blk w1 b #[V n] T->Calls Tryz.prog 88 #[.string ⟨#[111,107]⟩,.slice (some ⟨b,0,none⟩) 1 1] w1 fun e w'=>e=.returned (.string (txt (ansL okW [(n:Int)])))/\More w1 w'):=fun w1 b T m h=>Jac okW _ w1 b T (HL6.out.more m) (by decide) (by unfold B64;omega) h
  have HE:Hid (∀w',More W0 w'->P (.returned (.string (txt (ansL okW [(n:Int)])))) w'):=fun w' mm=>HP.out _ _ w' (.inl ⟨rfl,f,Hf.out.1,by rw[if_pos Hf.out.2],by rw[fauL,if_pos Hf.out.2,Hn.out]⟩) (HD.out.1.more mm)
  obtain⟨R,HR⟩:∃R,Hid (txt (ansL okW [(n:Int)])=R):=⟨_,rfl⟩;rw[HR.out]at CD HE;clear HP HR hn6;go_wp2_with (fail)
  rw[<-HW0.out];have hb:=Blk.last ((W0.alloc (.cells #[.slice a1 rl a2,.slice a3 n a4] 28)).alloc (.cells #[V 0,V 0] 52)) #[V n] 3;have hz:((W0.alloc (.cells #[.slice a1 rl a2,.slice a3 n a4] 28)).alloc (.cells #[V 0,V 0] 52)).heap.size=w1.heap.size+1+1:=by simp[HD.out.2]
  rw[hz]at hb;refine(CD.out _ _ _ ((((More.refl _).alloc _ _).alloc _ _).alloc _ _) hb).mono ?_;rintro e w11 ⟨rfl,m11⟩;have Hend:Hid (P (.returned (.string R)) w11):=HE.out w11 (((((More.refl _).alloc _ _).alloc _ _).alloc _ _).trans m11);clear m11 HE hb hz CD;go_wp2;exact Hend.out
 ·obtain⟨f1,f2⟩:=f
  have hb:=ht.b64 (by have:=Hw.out.cl;exact this);have HE:Hid (∀w',More w w'->P (.returned (.string (txt (ansL badW [f1,f2])))) w'):=fun w' mm=>HP.out x _ w' (.inl ⟨rfl,(f1,f2),ht,by rw[if_neg h0],by rw[fauL,if_neg h0]⟩) (DAns.same H.out mm)
  have CF:Hid (∀w2,More w w2->Calls Tryz.prog 90 #[.agg #[V f1,V f2]] w2 fun e w'=>e=.returned (.string (txt (ansL badW [f1,f2])))/\More w2 w'):=fun w2 m=>J4i f1 f2 w2 (HL.out.toLai.more m) hb.1 hb.2
  obtain⟨R,HR⟩:∃R,Hid (txt (ansL badW [f1,f2])=R):=⟨_,rfl⟩;rw[HR.out]at CF HE;dsimp only at h0;have e0:(f1==0)=false:=by simp[h0]
  have e1:(f1 != 0)=true:=by simp[h0]
  have Hm1:=J02 m1;clear HP CM ht m1 hb HR b0 b1 hGw;go_wp2_with (fail)
  refine(CF.out _ ((Hm1.out.alloc _ _).alloc _ _)).mono ?_;rintro e w2 ⟨rfl,m2⟩;have Hend:Hid (P (.returned (.string R)) w2):=HE.out w2 (((Hm1.out.alloc _ _).alloc _ _).trans m2);clear m2 HE CF;go_wp2;exact Hend.out
theorem J9o(c:Int)(w:World):Calls Tryz.prog 65 #[V c] w fun e w'=>e=.returned (.bool (decide (c < 0)))/\w'=w:=by
 go_enter Tryz.func65,Tryz.ntmps65;go_wp2;go_ret;exact⟨rfl,rfl⟩

theorem Je7(sa:Option Addr)(sb so n cap:Nat)(L:List Int)(hn:L.length=n)(h2:n<=2000)(w:World)(h:SIn w sa sb so L):
  Calls Tryz.prog 98 #[.slice sa n cap,.func (.func 65) #[] #[]] w fun e w'=>∃r:Int,e=.returned (V r)/\(0<=r↔∃(j:Nat) (c:Int),L[j]?=some c/\c < 0)/\w'=w:=by
 have H:=J3m (And.intro h hn);clear h hn;go_enter Tryz.func98,Tryz.ntmps98;go_wp2;go_loopg [8] n (fun g i wr=>∃k:Nat,k+g=n/\i=V k/\(∀(j:Nat) (c:Int),j < k->L[j]?=some c->0<=c)/\wr=w)
 case atStart=>exact⟨0,by omega,rfl,fun j c hj=>by omega,rfl⟩
 case round=>
  obtain⟨k,hkg,rfl,hok,rfl⟩:=hrel;have Hok:=J3m hok;clear hok;cases gk with
  | zero=>
   obtain rfl:k=n:=by omega
   go_wp2;go_ret;refine⟨-1,rfl,⟨fun h=>by omega,?_⟩,rfl⟩;rintro⟨j,c,h1,h2⟩;have hj:j < L.length:=(List.getElem?_eq_some_iff.1 h1).1;have:=Hok.out j c (by have:=H.out.2;omega) h1;omega
  | succ g=>
   have hk:k < n:=by omega
   have hk':(k:Int) < (n:Int):=by omega
   have hkw:wrap64 ((k:Int)+1)=(k:Int)+1:=by unfold wrap64;omega
   obtain rfl:=H.out.1.ha (by have:=H.out.2;omega);obtain⟨c,hc⟩:∃c,L[k]?=some c:=⟨L[k]'(by have:=H.out.2;omega),List.getElem?_eq_getElem _⟩;have hcell:=H.out.1.cells k c hc;have Hc:=J3m hc;clear hc;by_cases c0:c < 0
   ·have hB:=J9o c wr
    rw[decide_eq_true c0]at hB;have HB:=J3m hB;clear hB;go_wp2_with (fail)
    refine HB.out.mono ?_;rintro e w2 ⟨rfl,rfl⟩;go_wp2;go_ret;exact⟨k,rfl,⟨fun _=>⟨k,c,Hc.out,c0⟩,fun _=>by omega⟩,rfl⟩
   ·have hB:=J9o c wr
    rw[decide_eq_false c0]at hB;have HB:=J3m hB;clear hB;go_wp2_with (fail)
    refine HB.out.mono ?_;rintro e w2 ⟨rfl,rfl⟩;go_wp2;go_roundg g
    case measure=>omega
    case rel=>
     refine⟨k+1,by omega,by first | rfl | (push_cast;rfl) | simp,fun j c' hj hc'=>?_,rfl⟩;by_cases e:j=k
     ·subst e
      rw[Hc.out]at hc';obtain rfl:=Option.some.inj hc';omega
     ·exact Hok.out j c' (by omega) hc'

theorem J9d(sa:Option Addr)(sb so n cap:Nat)(L:List Int)(hn:L.length=n)(h2:n<=2000)(w:World)(h:SIn w sa sb so L):
  Calls Tryz.prog 66 #[.slice sa n cap,.func (.func 65) #[] #[]] w fun e w'=>∃r:Bool,e=.returned (.bool r)/\(r=true↔∃(j:Nat) (c:Int),L[j]?=some c/\c < 0)/\w'=w:=by
 have HI:=J3m (Je7 sa sb so n cap L hn h2 w h);clear h hn;go_enter Tryz.func66,Tryz.ntmps66;go_wp2_with (fail)
 refine HI.out.mono ?_;rintro e w2 ⟨r,rfl,hr,rfl⟩;have Hr:=J3m hr;clear hr HI;go_wp2;go_ret;exact⟨decide (0<=r),rfl,by rw[decide_eq_true_eq];exact Hr.out,rfl⟩

theorem J7s(sa:Option Addr)(sb so n cap:Nat)(L:List Int)(hn:L.length=n)(w:World)(h:SIn w sa sb so L):
  Calls Tryz.prog 29 #[.slice sa n cap] w fun e w'=>∃r:Bool,e=.returned (.bool r)/\(r=true↔ScOk L)/\w'=w:=by
 have Hn:=J3m hn;by_cases h2:n<=2000
 ·have h2':(n:Int)<=2000:=by omega
  have HI:=J3m (J9d sa sb so n cap L hn h2 w h);clear h hn;go_enter Tryz.func29,Tryz.ntmps29;go_wp2_with (fail)
  refine HI.out.mono ?_;rintro e w2 ⟨r,rfl,hr,rfl⟩;have Hr:=J3m hr;clear hr HI;go_wp2;go_ret;refine⟨!r,by simp,?_,rfl⟩;constructor
  ·intro h
   refine⟨by rw[Hn.out];exact h2,fun j c hc=>?_⟩;by_cases c0:0<=c
   ·exact c0
   ·have:=Hr.out.2 ⟨j,c,hc,by omega⟩
    rw[this]at h;cases h
  ·intro h
   cases r with
   | false=>rfl
   | true=>
    obtain⟨j,c,h3,h4⟩:=Hr.out.1 rfl;have:=h.2 j c h3;omega
 ·have h2':decide ((n:Int)<=2000)=false:=by simp;omega
  clear h hn;go_enter Tryz.func29,Tryz.ntmps29;go_wp2;go_ret;exact⟨false,by first | rfl | (simp;done) | (simp;omega),⟨(fun h=>by cases h),fun h=>by have:=h.1;rw[Hn.out]at this;omega⟩,rfl⟩
end
section
open Go.RowKit
set_option linter.unusedVariables false
structure Ms where
 fin:Int
 val:Int
 steps:Int
 sv:Value
 mv:Value
 r:Nat->Int
 wd:Nat->Int
 next:Int
 fuel:Int
 ended:Bool
 st:Nat->Int
 T:TypeId
 tl:Nat->Option Value
 mo:List (Nat × Obj)

def cellF(rv cv:Value)(x:Ms)(j:Nat):Value:=
 if j=0 then rv else if j=1 then cv else if j=2 then V x.fin else if j=3 then V x.val else if j=4 then V x.steps
 else if j=5 then x.sv else if j=6 then x.mv else if j < 17 then V (x.r (j - 7)) else if j < 401 then V (x.wd (j - 17))
 else if j=401 then V x.next else if j=402 then V x.fuel else if j=403 then .bool x.ended else V (x.st (j - 404))

theorem Jdr(rv cv:Value)(x:Ms)(j:Nat)(hj:j < 10):cellF rv cv x (7+j)=V (x.r j):=by
 unfold cellF;rw[if_neg (by omega),if_neg (by omega),if_neg (by omega),if_neg (by omega),if_neg (by omega),if_neg (by omega),if_neg (by omega),if_pos (by omega),show 7+j - 7=j by omega]
theorem Jam(rv cv:Value)(x:Ms)(j:Nat)(hj:j < 384):cellF rv cv x (17+j)=V (x.wd j):=by
 unfold cellF;rw[if_neg (by omega),if_neg (by omega),if_neg (by omega),if_neg (by omega),if_neg (by omega),if_neg (by omega),if_neg (by omega),if_neg (by omega),if_pos (by omega),show 17+j - 17=j by omega]
theorem Jfk(rv cv:Value)(x:Ms)(j:Nat)(hj:j < 7):cellF rv cv x (404+j)=V (x.st j):=by
 unfold cellF;rw[if_neg (by omega),if_neg (by omega),if_neg (by omega),if_neg (by omega),if_neg (by omega),if_neg (by omega),if_neg (by omega),if_neg (by omega),if_neg (by omega),if_neg (by omega),if_neg (by omega),if_neg (by omega),show 404+j - 404=j by omega]

structure MC(c:Array Value)(rv cv:Value)(x:Ms):Prop where
 big:411<=c.size
 at_:∀j,j < 411->c[j]?=some (cellF rv cv x j)
 tail:∀j,411<=j->c[j]?=x.tl j

theorem MC.size{c:Array Value}{rv cv:Value}{x:Ms}(h:MC c rv cv x)(ht:x.tl 411=none):c.size=411:=by
 have h1:=h.tail 411 (Nat.le_refl _);rw[ht,Array.getElem?_eq_none_iff]at h1;have:=h.big;omega

structure MAt(w:World)(M:Nat)(rv cv:Value)(x:Ms):Prop where
 out:∃c,w.heap[M]?=some (.cells c x.T (0,0))/\MC c rv cv x

def setN(r:Nat->Int)(k:Nat)(v:Int):Nat->Int:=fun j=>if j=k then v else r j

section
variable {w w':World} {M:Nat} {rv cv:Value} {x:Ms}

theorem MAt.wr(h:MAt w M rv cv x)(j:Nat)(hj:j < 411):Wr w M j (cellF rv cv x j):=by
 obtain⟨c,hh,hc⟩:=h.out;exact⟨by rw[cell_of_row w M j c x.T (0,0) hh];exact hc.at_ j hj,by simp[World.frozen?,hh]⟩
theorem MAt.lt(h:MAt w M rv cv x):M < w.heap.size:=J0q (h.wr 0 (by omega)).1

theorem MAt.p0(h:MAt w M rv cv x):Wr w M 0 rv:=h.wr 0 (by omega)
theorem MAt.p1(h:MAt w M rv cv x):Wr w M 1 cv:=h.wr 1 (by omega)
theorem MAt.fin(h:MAt w M rv cv x):Wr w M 2 (V x.fin):=h.wr 2 (by omega)
theorem MAt.val(h:MAt w M rv cv x):Wr w M 3 (V x.val):=h.wr 3 (by omega)
theorem MAt.steps(h:MAt w M rv cv x):Wr w M 4 (V x.steps):=h.wr 4 (by omega)
theorem MAt.sv(h:MAt w M rv cv x):Wr w M 5 x.sv:=h.wr 5 (by omega)
theorem MAt.mv(h:MAt w M rv cv x):Wr w M 6 x.mv:=h.wr 6 (by omega)
theorem MAt.next(h:MAt w M rv cv x):Wr w M 401 (V x.next):=h.wr 401 (by omega)
theorem MAt.fuel(h:MAt w M rv cv x):Wr w M 402 (V x.fuel):=h.wr 402 (by omega)
theorem MAt.ended(h:MAt w M rv cv x):Wr w M 403 (.bool x.ended):=h.wr 403 (by omega)
theorem MAt.r(h:MAt w M rv cv x)(j:Nat)(hj:j < 10):Wr w M (7+j) (V (x.r j)):=by
 have:=h.wr (7+j) (by omega);rw[Jdr rv cv x j hj]at this;exact this
theorem MAt.wd(h:MAt w M rv cv x)(j:Nat)(hj:j < 384):Wr w M (17+j) (V (x.wd j)):=by
 have:=h.wr (17+j) (by omega);rw[Jam rv cv x j hj]at this;exact this
theorem MAt.st(h:MAt w M rv cv x)(j:Nat)(hj:j < 7):Wr w M (404+j) (V (x.st j)):=by
 have:=h.wr (404+j) (by omega);rw[Jfk rv cv x j hj]at this;exact this

theorem MAt.kept(h:MAt w M rv cv x){row:Option Nat}(hg:w.grownBy w' row)(hne:some M≠row):MAt w' M rv cv x:=by
 obtain⟨c,hh,hc⟩:=h.out;exact⟨c,by rw[hg.block M h.lt hne];exact hh,hc⟩
theorem MAt.alloc(h:MAt w M rv cv x)(o:Obj):MAt (w.alloc o) M rv cv x:=h.kept (World.grownBy_alloc w o none) (by simp)
theorem MAt.drew(h:MAt w M rv cv x):MAt w.drew M rv cv x:=h.kept (J3t w none) (by simp)
theorem MAt.more(h:MAt w M rv cv x)(m:More w w'):MAt w' M rv cv x:=h.kept (m.grow none) (by simp)

theorem MAt.set(h:MAt w M rv cv x)(j:Nat)(v:Value)(x':Ms)(hj:j < 411)(hT:x'.T=x.T)(htl:x'.tl=x.tl)(hx:∀i,i < 411->cellF rv cv x' i=if i=j then v else cellF rv cv x i):MAt (w.setCell ⟨M,j,none⟩ v) M rv cv x':=by
 obtain⟨c,hh,hc⟩:=h.out;refine⟨c.setIfInBounds j v,?_,by simp[hc.big],fun i hi=>?_,fun i hi=>?_⟩
 ·rw[setCell_eq_setRow w M j c x.T (0,0) v hh,hT]
  exact setRow_heap w M c _ x.T _ hh
 ·rw[hx i hi,Array.getElem?_setIfInBounds]
  by_cases e:i=j
  ·subst e
   rw[if_pos rfl,if_pos rfl,if_pos (by have:=hc.big;omega)]
  ·rw[if_neg (fun h=>e h.symm),if_neg e]
   exact hc.at_ i hi
 ·rw[Array.getElem?_setIfInBounds,if_neg (by omega),htl]
  exact hc.tail i hi

theorem MAt.setTl(h:MAt w M rv cv x)(j:Nat)(v u:Value)(tl:Nat->Option Value)(hj:411<=j)(hu:x.tl j=some u)(htl:∀i,411<=i->tl i=if i=j then some v else x.tl i):MAt (w.setCell ⟨M,j,none⟩ v) M rv cv { x with tl:=tl }:=by
 obtain⟨c,hh,hc⟩:=h.out
 have hlt:j < c.size:=by
  have h1:=hc.tail j hj;rw[hu]at h1;exact(Array.getElem?_eq_some_iff.1 h1).1
 refine⟨c.setIfInBounds j v,?_,by simp[hc.big],fun i hi=>?_,fun i hi=>?_⟩
 ·rw[setCell_eq_setRow w M j c x.T (0,0) v hh]
  exact setRow_heap w M c _ x.T _ hh
 ·rw[Array.getElem?_setIfInBounds,if_neg (by omega)]
  exact hc.at_ i hi
 ·show _=tl i
  rw[Array.getElem?_setIfInBounds,htl i hi];by_cases e:i=j
  ·subst e
   rw[if_pos rfl,if_pos rfl,if_pos hlt]
  ·rw[if_neg (fun h=>e h.symm),if_neg e]
   exact hc.tail i hi
theorem MAt.tlw(h:MAt w M rv cv x)(j:Nat)(hj:411<=j)(v:Value)(hv:x.tl j=some v):Wr w M j v:=by
 obtain⟨c,hh,hc⟩:=h.out;exact⟨by rw[cell_of_row w M j c x.T (0,0) hh,hc.tail j hj];exact hv,by simp[World.frozen?,hh]⟩

theorem MAt.setFin(h:MAt w M rv cv x)(n:Int):MAt (w.setCell ⟨M,2,none⟩ (V n)) M rv cv { x with fin:=n }:=
 h.set 2 _ _ (by omega) rfl rfl fun i hi=>by unfold cellF;by_cases e:i=2<;>simp[e]
theorem MAt.setVal(h:MAt w M rv cv x)(n:Int):MAt (w.setCell ⟨M,3,none⟩ (V n)) M rv cv { x with val:=n }:=
 h.set 3 _ _ (by omega) rfl rfl fun i hi=>by unfold cellF;by_cases e:i=3<;>simp[e]
theorem MAt.setSteps(h:MAt w M rv cv x)(n:Int):MAt (w.setCell ⟨M,4,none⟩ (V n)) M rv cv { x with steps:=n }:=
 h.set 4 _ _ (by omega) rfl rfl fun i hi=>by unfold cellF;by_cases e:i=4<;>simp[e]
theorem MAt.setSv(h:MAt w M rv cv x)(v:Value):MAt (w.setCell ⟨M,5,none⟩ v) M rv cv { x with sv:=v }:=
 h.set 5 _ _ (by omega) rfl rfl fun i hi=>by unfold cellF;by_cases e:i=5<;>simp[e]
theorem MAt.setMv(h:MAt w M rv cv x)(v:Value):MAt (w.setCell ⟨M,6,none⟩ v) M rv cv { x with mv:=v }:=
 h.set 6 _ _ (by omega) rfl rfl fun i hi=>by unfold cellF;by_cases e:i=6<;>simp[e]
theorem MAt.setNext(h:MAt w M rv cv x)(n:Int):MAt (w.setCell ⟨M,401,none⟩ (V n)) M rv cv { x with next:=n }:=
 h.set 401 _ _ (by omega) rfl rfl fun i hi=>by unfold cellF;by_cases e:i=401<;>simp[e]
theorem MAt.setEnded(h:MAt w M rv cv x)(b:Bool):MAt (w.setCell ⟨M,403,none⟩ (.bool b)) M rv cv { x with ended:=b }:=
 h.set 403 _ _ (by omega) rfl rfl fun i hi=>by unfold cellF;by_cases e:i=403<;>simp[e]
theorem MAt.setR(h:MAt w M rv cv x)(k:Nat)(hk:k < 10)(n:Int):MAt (w.setCell ⟨M,7+k,none⟩ (V n)) M rv cv { x with r:=setN x.r k n }:=
 h.set (7+k) _ _ (by omega) rfl rfl fun i hi=>by
  by_cases e:i=7+k
  ·subst e;rw[if_pos rfl,Jdr _ _ _ k hk];simp[setN]
  ·rw[if_neg e]
   unfold cellF setN;by_cases e1:i < 7
   ·have:i=0\/i=1\/i=2\/i=3\/i=4\/i=5\/i=6:=by omega
    rcases this with rfl | rfl | rfl | rfl | rfl | rfl | rfl<;>simp
   ·have e2:¬i - 7=k:=by omega
    simp[e2]
theorem MAt.setWd(h:MAt w M rv cv x)(k:Nat)(hk:k < 384)(n:Int):MAt (w.setCell ⟨M,17+k,none⟩ (V n)) M rv cv { x with wd:=setN x.wd k n }:=
 h.set (17+k) _ _ (by omega) rfl rfl fun i hi=>by
  by_cases e:i=17+k
  ·subst e;rw[if_pos rfl,Jam _ _ _ k hk];simp[setN]
  ·rw[if_neg e]
   unfold cellF setN;by_cases e1:i < 17
   ·simp[e1]
   ·have e2:¬i - 17=k:=by omega
    simp[e2]
theorem MAt.setSt(h:MAt w M rv cv x)(k:Nat)(hk:k < 7)(n:Int):MAt (w.setCell ⟨M,404+k,none⟩ (V n)) M rv cv { x with st:=setN x.st k n }:=
 h.set (404+k) _ _ (by omega) rfl rfl fun i hi=>by
  by_cases e:i=404+k
  ·subst e;rw[if_pos rfl,Jfk _ _ _ k hk];simp[setN]
  ·rw[if_neg e]
   unfold cellF setN;by_cases e1:i < 404
   ·have:i < 401\/i=401\/i=402\/i=403:=by omega
    rcases this with h1 | rfl | rfl | rfl
    ·simp[h1]
    ·simp
    ·simp
    ·simp
   ·have e2:¬i - 404=k:=by omega
    simp[e2]
end

structure Run(w:World)(M:Nat)(rv cv:Value)(x:Ms)(se:List Se):Prop where
 out:∃sv,MAt w M rv cv { x with sv:=sv }/\SeenOwn w (M+1) sv se/\∀q ∈ x.mo,M < q.1/\some q.1≠sv.ownBlock/\w.heap[q.1]?=some q.2

section
variable {w w':World} {M:Nat} {rv cv:Value} {x x':Ms} {se:List Se}
theorem Run.lt(h:Run w M rv cv x se):M < w.heap.size:=by
 obtain⟨sv,hm,_⟩:=h.out;exact hm.lt
theorem Run.kept(h:Run w M rv cv x se){row:Option Nat}(hg:w.grownBy w' row)(hr:∀b,row=some b->b < M):Run w' M rv cv x se:=by
 obtain⟨sv,hm,ho,hq⟩:=h.out;exact⟨sv,hm.kept hg (fun e=>by have:=hr M e.symm;omega),ho.kept hg (fun b hb=>by have:=hr b hb;omega),fun q e=>⟨(hq q e).1,(hq q e).2.1,by rw[hg.block q.1 (J1a (hq q e).2.2) (fun e'=>by have:=hr q.1 e'.symm;have:=(hq q e).1;omega)];exact(hq q e).2.2⟩⟩
theorem Run.more(h:Run w M rv cv x se)(m:More w w'):Run w' M rv cv x se:=h.kept (m.grow none) (fun b hb=>by cases hb)
theorem Run.alloc(h:Run w M rv cv x se)(o:Obj):Run (w.alloc o) M rv cv x se:=h.kept (World.grownBy_alloc w o none) (fun b hb=>by cases hb)
theorem Run.drew(h:Run w M rv cv x se):Run w.drew M rv cv x se:=h.kept (J3t w none) (fun b hb=>by cases hb)
theorem Run.put(h:Run w M rv cv x se){j:Nat}{v:Value}(hmo:x'.mo=x.mo)(hm:∀sv,MAt w M rv cv { x with sv:=sv }->MAt (w.setCell ⟨M,j,none⟩ v) M rv cv { x' with sv:=sv }):Run (w.setCell ⟨M,j,none⟩ v) M rv cv x' se:=by
 obtain⟨sv,h1,ho,hq⟩:=h.out
 exact⟨sv,hm sv h1,ho.kept (J19 w M j v) (fun b hb=>by have:=Option.some.inj hb;omega),fun q e=>by
  rw[hmo]at e;exact⟨(hq q e).1,(hq q e).2.1,by rw[(J19 w M j v).block q.1 (J1a (hq q e).2.2) (fun e'=>by have:=Option.some.inj e';have:=(hq q e).1;omega)];exact(hq q e).2.2⟩⟩
theorem Run.setFin(h:Run w M rv cv x se)(n:Int):Run (w.setCell ⟨M,2,none⟩ (V n)) M rv cv { x with fin:=n } se:=h.put rfl fun _ m=>m.setFin n
theorem Run.setVal(h:Run w M rv cv x se)(n:Int):Run (w.setCell ⟨M,3,none⟩ (V n)) M rv cv { x with val:=n } se:=h.put rfl fun _ m=>m.setVal n
theorem Run.setSteps(h:Run w M rv cv x se)(n:Int):Run (w.setCell ⟨M,4,none⟩ (V n)) M rv cv { x with steps:=n } se:=h.put rfl fun _ m=>m.setSteps n
theorem Run.setNext(h:Run w M rv cv x se)(n:Int):Run (w.setCell ⟨M,401,none⟩ (V n)) M rv cv { x with next:=n } se:=h.put rfl fun _ m=>m.setNext n
theorem Run.setEnded(h:Run w M rv cv x se)(b:Bool):Run (w.setCell ⟨M,403,none⟩ (.bool b)) M rv cv { x with ended:=b } se:=h.put rfl fun _ m=>m.setEnded b
theorem Run.setR(h:Run w M rv cv x se)(k:Nat)(hk:k < 10)(n:Int):Run (w.setCell ⟨M,7+k,none⟩ (V n)) M rv cv { x with r:=setN x.r k n } se:=h.put rfl fun _ m=>m.setR k hk n
theorem Run.setWd(h:Run w M rv cv x se)(k:Nat)(hk:k < 384)(n:Int):Run (w.setCell ⟨M,17+k,none⟩ (V n)) M rv cv { x with wd:=setN x.wd k n } se:=h.put rfl fun _ m=>m.setWd k hk n

theorem Run.fin(h:Run w M rv cv x se):Wr w M 2 (V x.fin):=by obtain⟨sv,m,_⟩:=h.out;exact m.fin
theorem Run.val(h:Run w M rv cv x se):Wr w M 3 (V x.val):=by obtain⟨sv,m,_⟩:=h.out;exact m.val
theorem Run.steps(h:Run w M rv cv x se):Wr w M 4 (V x.steps):=by obtain⟨sv,m,_⟩:=h.out;exact m.steps
theorem Run.p0(h:Run w M rv cv x se):Wr w M 0 rv:=by obtain⟨sv,m,_⟩:=h.out;exact m.p0
theorem Run.p1(h:Run w M rv cv x se):Wr w M 1 cv:=by obtain⟨sv,m,_⟩:=h.out;exact m.p1
theorem Run.next(h:Run w M rv cv x se):Wr w M 401 (V x.next):=by obtain⟨sv,m,_⟩:=h.out;exact m.next
theorem Run.fuel(h:Run w M rv cv x se):Wr w M 402 (V x.fuel):=by obtain⟨sv,m,_⟩:=h.out;exact m.fuel
theorem Run.ended(h:Run w M rv cv x se):Wr w M 403 (.bool x.ended):=by obtain⟨sv,m,_⟩:=h.out;exact m.ended
theorem Run.r(h:Run w M rv cv x se)(j:Nat)(hj:j < 10):Wr w M (7+j) (V (x.r j)):=by obtain⟨sv,m,_⟩:=h.out;exact m.r j hj
theorem Run.wd(h:Run w M rv cv x se)(j:Nat)(hj:j < 384):Wr w M (17+j) (V (x.wd j)):=by obtain⟨sv,m,_⟩:=h.out;exact m.wd j hj
theorem Run.tlw(h:Run w M rv cv x se)(j:Nat)(hj:411<=j)(v:Value)(hv:x.tl j=some v):Wr w M j v:=by obtain⟨sv,m,_⟩:=h.out;exact m.tlw j hj v hv
theorem Run.setTl(h:Run w M rv cv x se)(j:Nat)(v u:Value)(tl:Nat->Option Value)(hj:411<=j)(hu:x.tl j=some u)(htl:∀i,411<=i->tl i=if i=j then some v else x.tl i):Run (w.setCell ⟨M,j,none⟩ v) M rv cv { x with tl:=tl } se:=h.put rfl fun _ m=>m.setTl j v u tl hj hu htl
theorem Run.st(h:Run w M rv cv x se)(j:Nat)(hj:j < 7):Wr w M (404+j) (V (x.st j)):=by obtain⟨sv,m,_⟩:=h.out;exact m.st j hj
end

theorem MAt.mos{w:World}{M:Nat}{rv cv:Value}{x:Ms}(h:MAt w M rv cv x)(l:List (Nat × Obj)):MAt w M rv cv { x with mo:=l }:=by
 obtain⟨c,hh,hc⟩:=h.out;exact⟨c,hh,hc.big,hc.at_,hc.tail⟩
theorem Run.left{w:World}{M:Nat}{rv cv:Value}{x:Ms}{se:List Se}(h:Run w M rv cv x se){q:Nat × Obj}(hq:q ∈ x.mo):w.heap[q.1]?=some q.2:=by obtain⟨sv,_,_,h3⟩:=h.out;exact(h3 q hq).2.2
theorem Run.beside{w:World}{M:Nat}{rv cv:Value}{x:Ms}{se:List Se}(h:Run w M rv cv x se)(o:Obj):Run (w.alloc o) M rv cv { x with mo:=(w.heap.size,o)::x.mo } se:=by
 have h0:=h.alloc o;obtain⟨sv,h1,h2,h3⟩:=h.out;refine⟨sv,(h1.alloc o).mos _,h2.kept (World.grownBy_alloc w o none) (fun b hb=>by cases hb),fun q hq=>?_⟩;rcases List.mem_cons.1 hq with rfl | hq
 ·refine⟨h.lt,fun e=>?_,heap_alloc_last w o⟩
  have:=(World.ownsRow.lt h2 _ e.symm).2;dsimp only at this;omega
 ·refine⟨(h3 q hq).1,(h3 q hq).2.1,?_⟩
  rw[(World.grownBy_alloc w o none).block q.1 (J1a (h3 q hq).2.2) (by simp)];exact(h3 q hq).2.2
theorem Run.fewer{w:World}{M:Nat}{rv cv:Value}{x:Ms}{se:List Se}(h:Run w M rv cv x se)(l:List (Nat × Obj))(hl:∀q ∈ l,q ∈ x.mo):Run w M rv cv { x with mo:=l } se:=by
 obtain⟨sv,h1,h2,h3⟩:=h.out;exact⟨sv,h1.mos _,h2,fun q hq=>h3 q (hl q hq)⟩
end
section
open Go.RowKit
set_option linter.unusedSimpArgs false
set_option linter.unusedVariables false
theorem J45(w:World)(M:Nat)(a b:Int)(s4:w.cell? ⟨M,4,none⟩=some (V a))(s402:w.cell? ⟨M,402,none⟩=some (V b)):
  Calls Tryz.prog 57 #[.pointer (some ⟨M,0,none⟩)] w fun e w'=>e=.returned (.bool (decide (a < b)))/\More w w':=by
 go_enter Tryz.func57,Tryz.ntmps57;go_wp2
 go_region
 go_wp2;go_ret;exact⟨rfl,(More.refl _).drew⟩

theorem J5y(w:World)(M:Nat)(a:Int)(ca:Option Addr)(cl cc:Nat)(s:w.cell? ⟨M,401,none⟩=some (V a))(s1:w.cell? ⟨M,1,none⟩=some (.slice ca cl cc)):
  Calls Tryz.prog 59 #[.pointer (some ⟨M,0,none⟩)] w fun e w'=>e=.returned (.bool (decide (a < (cl:Int))))/\More w w':=by
 go_enter Tryz.func59,Tryz.ntmps59;go_wp2
 go_region
 go_wp2;go_ret;exact⟨rfl,(More.refl _).drew⟩

theorem J3w(w:World)(M:Nat)(rv cv:Value)(x:Ms)(se:List Se)(n:Int)(h:Run w M rv cv x se):
  Calls Tryz.prog 58 #[.pointer (some ⟨M,0,none⟩),V n] w fun e w'=>e=.returned (.tuple #[])/\Run w' M rv cv { x with fin:=n,ended:=true } se/\Below M w w':=by
 obtain⟨c0,f0⟩:=h.fin;obtain⟨c1,f1⟩:=h.ended;have H:Hid (Run w M rv cv x se):=h;clear h;go_enter Tryz.func58,Tryz.ntmps58;go_wp2;go_end0;exact⟨rfl,(H.out.setFin n).setEnded true,J0f (J0f (Below.refl _ _) _ _) _ _⟩

def OwnNot(w:World)(M B:Nat):Prop:=∀sv,w.cell? ⟨M,5,none⟩=some sv->some B≠sv.ownBlock
theorem Run.notOwn{w:World}{M:Nat}{rv cv:Value}{x:Ms}{se:List Se}(h:Run w M rv cv x se)(B:Nat)(hB:w.heap.size<=B):OwnNot w M B:=by
 intro sv hc e;obtain⟨sv',hm,ho,_⟩:=h.out;have h5:=hm.sv.1;dsimp only at h5;rw[hc]at h5;obtain rfl:=Option.some.inj h5;have:=(World.ownsRow.lt ho B e.symm).2;omega

theorem OwnNot.of{w w':World}{M B:Nat}(h:OwnNot w M B)(e:w'.cell? ⟨M,5,none⟩=w.cell? ⟨M,5,none⟩):OwnNot w' M B:=fun sv hc=>h sv (by rw[<-e];exact hc)
structure RunA(w:World)(M:Nat)(rv cv:Value)(x:Ms)(se:List Se)(R:Nat):Prop where
 run:Run w M rv cv x se
 own:OwnNot w M R
 ne:R≠M
 mo:∀q ∈ x.mo,q.1≠R
theorem Run.moLt{w:World}{M:Nat}{rv cv:Value}{x:Ms}{se:List Se}(h:Run w M rv cv x se):∀q ∈ x.mo,q.1≠w.heap.size:=by
 intro q e;obtain⟨sv,_,_,hq⟩:=h.out;have:=J1a (hq q e).2.2;omega
theorem RunA.set{w:World}{M:Nat}{rv cv:Value}{x:Ms}{se:List Se}{R:Nat}(h:RunA w M rv cv x se R)(j:Nat)(v:Value):RunA (w.setCell ⟨R,j,none⟩ v) M rv cv x se R:=by
 obtain⟨sv,hm,ho,hq⟩:=h.run.out;have hne:some M≠some R:=fun e=>h.ne (Option.some.inj e).symm
 refine⟨⟨sv,hm.kept (J19 w R j v) hne,World.ownsRow.kept ho (J19 w R j v) (.inr fun e=>h.own sv hm.sv.1 e.symm),fun q e=>⟨(hq q e).1,(hq q e).2.1,by rw[(J19 w R j v).block q.1 (J1a (hq q e).2.2) (fun e'=>h.mo q e (Option.some.inj e'))];exact(hq q e).2.2⟩⟩,h.own.of (World.cell?_setCell_other _ _ _ _ ?_),h.ne,h.mo⟩;intro e;simp only[Addr.mk.injEq]at e;exact h.ne e.1

theorem J46(w:World)(M:Nat)(rv cv:Value)(x:Ms)(se:List Se)(k a b:Int)(hl:se.length<=200000)(h:Run w M rv cv x se):
  Calls Tryz.prog 63 #[.pointer (some ⟨M,0,none⟩),V k,V a,V b] w fun e w'=>e=.returned (.tuple #[])/\Run w' M rv cv x (se++[⟨k,a,b⟩])/\Below M w w'/\∀B,B < w.heap.size->B≠M->OwnNot w M B->w'.heap[B]?=w.heap[B]?/\OwnNot w' M B:=by
 obtain⟨sv,hm,ho,hq⟩:=h.out;obtain⟨sa,sc,rfl⟩:=Jbf ho;obtain⟨c5,f5⟩:=hm.sv;dsimp only at c5;have hlt:=hm.lt;obtain⟨i2,hi2,hz0,hz1,hz2⟩:=info_parts Jox;have Hi:Hid (Tryz.prog.info? 165=some i2/\i2.zero=some (.agg #[V 0,V 0,V 0])/\i2.size=3/\i2.bytes=24):=⟨hi2,hz0,hz1,hz2⟩;clear hi2 hz0 hz1 hz2;have H:Hid (MAt w M rv cv { x with sv:=.slice sa se.length sc }/\SeenOwn w (M+1) (.slice sa se.length sc) se/\se.length<=200000/\M < w.heap.size):=⟨hm,ho,hl,hlt⟩;have Hrow:Hid (some M≠(Value.slice sa se.length sc).ownBlock):=fun e=>by have:=(World.ownsRow.lt ho M e.symm).1;omega
 have Hown:Hid (SeenOwn (w.alloc (.cells #[V k,V a,V b] 165)) (M+1) (.slice sa se.length sc) se):=ho.kept (World.grownBy_alloc w _ none) (fun b hb=>by cases hb);have HQ:Hid (∀q ∈ x.mo,M < q.1/\some q.1≠(Value.slice sa se.length sc).ownBlock/\w.heap[q.1]?=some q.2):=hq;clear hm ho hl h hlt hq;go_enter Tryz.func63,Tryz.ntmps63;go_wp2_with (at_builtin;refine wpList_append_lies _ rfl (.tmp 13) (.tmp 18) 42 rfl (M+1) 165 i2 (.agg #[V 0,V 0,V 0]) 3 24 Tryz.underlying42 Hi.out.1 Hi.out.2.1 Hi.out.2.2.1 Hi.out.2.2.2 rfl (by decide) (.slice sa se.length sc) se.length (flatS se) rfl Hown.out ⟨w.heap.size,0,none⟩ 1 1 [V k,V a,V b] rfl rfl (by simpa using J89 w (V k) (V a) (V b) 165) (fun x hx=>by simp at hx;rcases hx with rfl | rfl | rfl<;>rfl) (by decide) (by have:=H.out.2.2.1;unfold maxLen;omega) (by have:=H.out.2.2.1;omega) (by have:=H.out.2.2.2;simp;omega) (w.heap.size+1) (by simp) ?_;intro g_ cap w2 own2 gr2 hat2 hlt2;obtain⟨t5c,t5f⟩:=(H.out.1.sv.kept (World.grownBy_alloc w (.cells #[V k,V a,V b] 165) none) (by simp)).kept gr2 Hrow.out)
 go_end0
 have kp:∀B,B < w.heap.size->B≠M->some B≠(Value.slice sa se.length sc).ownBlock->(w2.setCell ⟨M,5,none⟩ (.slice (some ⟨g_,0,none⟩) (se.length+1) cap)).heap[B]?=w.heap[B]?/\B≠g_:=by
  intro B hB hM hO;refine⟨by rw[Below.heap_setCell _ _ _ _ (by simpa using hM),gr2.block B (by simp;omega) hO,(World.grownBy_alloc w _ none).block B hB (by simp)],fun e=>?_⟩;subst e;rcases hat2 with h1 | h1
  ·exact hO h1.symm
  ·omega
 refine⟨rfl,⟨.slice (some ⟨g_,0,none⟩) (se.length+1) cap,((H.out.1.alloc _).kept gr2 Hrow.out).setSv _,?_,fun q e=>?_⟩,J0f (Below.grown (J07 (Below.refl _ _) (by have:=H.out.2.2.2;omega) _) gr2 ?_ ?_) _ _,?_⟩
 ·refine SeenOwn.kept ?_ (J19 _ _ _ _) (fun b hb=>by have:=Option.some.inj hb;omega)
  unfold SeenOwn;rw[J7g,List.length_append];exact own2
 ·obtain⟨q1,q2,q3⟩:=HQ.out q e
  have h1:=kp q.1 (J1a q3) (by omega) q2;refine⟨q1,fun e'=>h1.2 ?_,by rw[h1.1];exact q3⟩;simpa[Value.ownBlock]using e'
 ·have:=H.out.2.2.2;simp;omega
 ·intro b hb;have:=(World.ownsRow.lt H.out.2.1 b hb).1;omega
 ·intro B hB hM hO
  have h1:=kp B hB hM (hO _ H.out.1.sv.1);refine⟨h1.1,fun sv hc e=>?_⟩;rw[World.cell?_setCell_same _ _ _ t5c]at hc;obtain rfl:=Option.some.inj hc;exact h1.2 (by simpa[Value.ownBlock]using e)
end
section
open Go.RowKit
set_option linter.unusedSimpArgs false
set_option linter.unusedVariables false
set_option maxRecDepth 8000
theorem Jd6(op a b c n:Int)(w:World)(M:Nat)(rv:Value)(cb co cl cc at_:Nat)(x:Ms)(se:List Se)(hl:se.length<=200000)(hnext:x.next=(at_:Int))(hat:at_ < cl)(hcl:cl<=8000)(k0:0<=x.steps)(k1:x.steps<=40000)(hcb:cb < M)
  (q0:w.cell? ⟨cb,co+at_*5,none⟩=some (V op)) (q1:w.cell? ⟨cb,co+at_*5+1,none⟩=some (V a)) (q2:w.cell? ⟨cb,co+at_*5+2,none⟩=some (V b)) (q3:w.cell? ⟨cb,co+at_*5+3,none⟩=some (V c)) (q4:w.cell? ⟨cb,co+at_*5+4,none⟩=some (V n))
  (h:Run w M rv (.slice (some ⟨cb,co,none⟩) cl cc) x se):
  Calls Tryz.prog 27 #[.pointer (some ⟨M,0,none⟩)] w fun e w'=>e=.returned (.agg #[V op,V a,V b,V c,V n])/\Run w' M rv (.slice (some ⟨cb,co,none⟩) cl cc) { x with steps:=x.steps+1,next:=(at_:Int)+1 } (se++[⟨1,at_,0⟩])/\Below M w w':=by
 have hM:=h.lt;have hn:¬M=w.heap.size:=by omega
 have hn':¬w.heap.size=M:=by omega
 have hx0:wrap64 (x.steps+1)=x.steps+1:=by unfold wrap64;omega
 have hx1:wrap64 ((at_:Int)+1)=(at_:Int)+1:=by unfold wrap64;omega
 obtain⟨c4,f4⟩:=h.steps;obtain⟨c401,f401⟩:=h.next;rw[hnext]at c401;obtain⟨k,hk⟩:∃k,x.steps=k:=⟨_,rfl⟩;rw[hk]at c4 hx0 |-;have H:Hid (Run w M rv (.slice (some ⟨cb,co,none⟩) cl cc) x se/\se.length<=200000/\cb < M):=⟨h,hl,hcb⟩;have q0':Hid (w.cell? ⟨cb,co+at_*5,none⟩=some (V op)):=q0;have q1':Hid (w.cell? ⟨cb,co+at_*5+1,none⟩=some (V a)):=q1;have q2':Hid (w.cell? ⟨cb,co+at_*5+2,none⟩=some (V b)):=q2;have q3':Hid (w.cell? ⟨cb,co+at_*5+3,none⟩=some (V c)):=q3;have q4':Hid (w.cell? ⟨cb,co+at_*5+4,none⟩=some (V n)):=q4;have hat':(at_:Int) < (cl:Int):=by omega
 have hat0:(0:Int)<=(at_:Int):=by omega
 have Hnx:Hid (x.next=(at_:Int)):=hnext;clear h hl hk hnext q0 q1 q2 q3 q4 k0 k1;go_enter Tryz.func27,Tryz.ntmps27;go_wp2_with (fail)
 refine(J46 _ M rv (.slice (some ⟨cb,co,none⟩) cl cc) { x with steps:=k+1 } se 1 at_ 0 H.out.2.1 ((H.out.1.setSteps (k+1)).alloc _)).mono ?_;rintro e w2 ⟨rfl,r2,b2,kp⟩;have kb:=kp w.heap.size (by simp) (by omega) (((H.out.1.setSteps (k+1)).notOwn w.heap.size (by simp)).of (World.cell?_of_block ((World.grownBy_alloc _ _ none).block M (by simpa using hM) (by simp))));have hb2:Below M w w2:=Below.trans (J07 (J0f (Below.refl _ _) _ _) (by simp;omega) _) b2;have Hr:Hid (Run w2 M rv (.slice (some ⟨cb,co,none⟩) cl cc) { x with steps:=k+1 } (se++[⟨1,at_,0⟩])/\Below M w w2):=⟨r2,hb2⟩;have q0:w2.cell? ⟨cb,co+at_*5,none⟩=some (V op):=by rw[Below.cell hb2 H.out.2.2];exact q0'.out
 have q1:w2.cell? ⟨cb,co+at_*5+1,none⟩=some (V a):=by rw[Below.cell hb2 H.out.2.2];exact q1'.out
 have q2:w2.cell? ⟨cb,co+at_*5+2,none⟩=some (V b):=by rw[Below.cell hb2 H.out.2.2];exact q2'.out
 have q3:w2.cell? ⟨cb,co+at_*5+3,none⟩=some (V c):=by rw[Below.cell hb2 H.out.2.2];exact q3'.out
 have q4:w2.cell? ⟨cb,co+at_*5+4,none⟩=some (V n):=by rw[Below.cell hb2 H.out.2.2];exact q4'.out
 have z:∀j,j < 5->w2.cell? ⟨w.heap.size,j,none⟩=some (V 0)/\w2.frozen? ⟨w.heap.size,j,none⟩=false:=by
  intro j hj;rw[World.cell?_of_block kb.1,World.frozen?_of_block kb.1];have:j=0\/j=1\/j=2\/j=3\/j=4:=by omega
  rcases this with rfl | rfl | rfl | rfl | rfl<;>exact⟨by go_simp,by go_simp⟩
 obtain⟨z0,g0⟩:=z 0 (by omega);obtain⟨z1,g1⟩:=z 1 (by omega);obtain⟨z2,g2⟩:=z 2 (by omega);obtain⟨z3,g3⟩:=z 3 (by omega);obtain⟨z4,g4⟩:=z 4 (by omega);obtain⟨n401,m401⟩:=r2.next;have n1:=r2.p1.1;replace n401:w2.cell? ⟨M,401,none⟩=some (V at_):=by rw[n401];exact congrArg (fun v=>some (Value.int .i64 v)) Hnx.out
 have d1:¬cb=M:=by omega
 have d2:¬M=cb:=by omega
 have d3:¬cb=w.heap.size:=by omega
 have d4:¬w.heap.size=cb:=by omega
 have Hfin:Hid (∀u0 u1 u2 u3 u4:Value,Run ((((((w2.setCell ⟨M,401,none⟩ (V ((at_:Int)+1))).setCell ⟨w.heap.size,0,none⟩ u0).setCell ⟨w.heap.size,1,none⟩ u1).setCell ⟨w.heap.size,2,none⟩ u2).setCell ⟨w.heap.size,3,none⟩ u3).setCell ⟨w.heap.size,4,none⟩ u4) M rv (.slice (some ⟨cb,co,none⟩) cl cc) { x with steps:=k+1,next:=(at_:Int)+1 } (se++[⟨1,at_,0⟩])/\Below M w ((((((w2.setCell ⟨M,401,none⟩ (V ((at_:Int)+1))).setCell ⟨w.heap.size,0,none⟩ u0).setCell ⟨w.heap.size,1,none⟩ u1).setCell ⟨w.heap.size,2,none⟩ u2).setCell ⟨w.heap.size,3,none⟩ u3).setCell ⟨w.heap.size,4,none⟩ u4)):=by
  intro u0 u1 u2 u3 u4;have hle:M<=w.heap.size:=by omega
  refine⟨(((((RunA.mk (r2.setNext ((at_:Int)+1)) (kb.2.of (World.cell?_setCell_other _ _ _ _ (by simp))) hn' H.out.1.moLt).set 0 u0).set 1 u1).set 2 u2).set 3 u3 |>.set 4 u4).run,Below.setCell (Below.setCell (Below.setCell (Below.setCell (Below.setCell (J0f hb2 _ _) hle _) hle _) hle _) hle _) hle _⟩
 clear r2 b2 kp kb z hb2;go_wp2;refine bodyPost_ret (v:=.agg #[V op,V a,V b,V c,V n]) (by simp[results,Tryz.results27,go_sem, *]) rfl ⟨rfl,?_⟩;exact Hfin.out _ _ _ _ _

theorem J6h(w:World)(M:Nat)(rv:Value)(ca:Option Addr)(cl cc:Nat)(x:Ms)(se:List Se)(h:Run w M rv (.slice ca cl cc) x se)(he:x.ended=false)(hf:x.steps < x.fuel)(hn:x.next < (cl:Int)):
  Calls Tryz.prog 25 #[.pointer (some ⟨M,0,none⟩)] w fun e w'=>e=.returned (.bool true)/\Run w' M rv (.slice ca cl cc) x se/\Below M w w':=by
 have H:Hid (Run w M rv (.slice ca cl cc) x se):=h;have e1:=h.ended.1;rw[he]at e1
 have Hf:Hid (∀w1,More w w1->Calls Tryz.prog 57 #[.pointer (some ⟨M,0,none⟩)] w1 fun e w'=>e=.returned (.bool true)/\More w1 w'):=fun w1 m=>by
  have:=J45 w1 M _ _ (h.more m).steps.1 (h.more m).fuel.1;rw[decide_eq_true hf]at this;exact this
 have Hn:Hid (∀w1,More w w1->Calls Tryz.prog 59 #[.pointer (some ⟨M,0,none⟩)] w1 fun e w'=>e=.returned (.bool true)/\More w1 w'):=fun w1 m=>by
  have:=J5y w1 M _ ca cl cc (h.more m).next.1 (h.more m).p1.1;rw[decide_eq_true hn]at this;exact this
 clear h he hf hn;go_enter Tryz.func25,Tryz.ntmps25;go_wp2_with (fail)
 refine(Hf.out _ (More.refl _)).mono ?_;rintro e w1 ⟨rfl,m1⟩;have Hm1:Hid (More w w1):=m1;clear m1;go_wp2_with (fail)
 refine(Hn.out _ Hm1.out).mono ?_;rintro e w2 ⟨rfl,m2⟩;have Hm2:Hid (More w w2):=Hm1.out.trans m2;have e2:=m2.cell (Hm1.out.cell e1);clear m2;go_wp2;go_ret;exact⟨rfl,H.out.more Hm2.out,Below.mono Hm2.out (Nat.le_of_lt H.out.lt)⟩

theorem J4w(w:World)(M:Nat)(rv cv:Value)(x:Ms)(se:List Se)(h:Run w M rv cv x se)(he:x.ended=true):
  Calls Tryz.prog 25 #[.pointer (some ⟨M,0,none⟩)] w fun e w'=>e=.returned (.bool false)/\Run w' M rv cv x se/\Below M w w':=by
 have H:Hid (Run w M rv cv x se):=h;have e1:=h.ended.1;rw[he]at e1;clear h he;go_enter Tryz.func25,Tryz.ntmps25;go_wp2;go_ret;exact⟨rfl,H.out,Below.refl _ _⟩

theorem J4u(w:World)(M:Nat)(rv cv:Value)(x:Ms)(se:List Se)(h:Run w M rv cv x se)(he:x.ended=false)(hf:¬x.steps < x.fuel):
  Calls Tryz.prog 25 #[.pointer (some ⟨M,0,none⟩)] w fun e w'=>e=.returned (.bool false)/\Run w' M rv cv { x with fin:=0,ended:=true } se/\Below M w w':=by
 have H:Hid (Run w M rv cv x se):=h;have e1:=h.ended.1;rw[he]at e1
 have Hf:Hid (∀w1,More w w1->Calls Tryz.prog 57 #[.pointer (some ⟨M,0,none⟩)] w1 fun e w'=>e=.returned (.bool false)/\More w1 w'):=fun w1 m=>by
  have:=J45 w1 M _ _ (h.more m).steps.1 (h.more m).fuel.1;rw[decide_eq_false hf]at this;exact this
 clear h he hf;go_enter Tryz.func25,Tryz.ntmps25;go_wp2_with (fail)
 refine(Hf.out _ (More.refl _)).mono ?_;rintro e w1 ⟨rfl,m1⟩;have Hm1:Hid (More w w1):=m1;clear m1;go_wp2_with (fail)
 refine(J3w _ M rv cv x se 0 (H.out.more Hm1.out)).mono ?_;rintro e w2 ⟨rfl,r2,b2⟩;have H2:Hid (Run w2 M rv cv { x with fin:=0,ended:=true } se/\Below M w w2):=⟨r2,Below.trans (Below.mono Hm1.out (Nat.le_of_lt H.out.lt)) b2⟩;have e2:=r2.ended.1;dsimp only at e2;clear r2 b2;go_wp2;go_ret;exact⟨rfl,H2.out.1,H2.out.2⟩

theorem J4v(w:World)(M:Nat)(rv:Value)(ca:Option Addr)(cl cc:Nat)(x:Ms)(se:List Se)(h:Run w M rv (.slice ca cl cc) x se)(he:x.ended=false)(hf:x.steps < x.fuel)(hn:¬x.next < (cl:Int)):
  Calls Tryz.prog 25 #[.pointer (some ⟨M,0,none⟩)] w fun e w'=>e=.returned (.bool false)/\Run w' M rv (.slice ca cl cc) { x with fin:=2,ended:=true } se/\Below M w w':=by
 have H:Hid (Run w M rv (.slice ca cl cc) x se):=h;have e1:=h.ended.1;rw[he]at e1
 have Hf:Hid (∀w1,More w w1->Calls Tryz.prog 57 #[.pointer (some ⟨M,0,none⟩)] w1 fun e w'=>e=.returned (.bool true)/\More w1 w'):=fun w1 m=>by
  have:=J45 w1 M _ _ (h.more m).steps.1 (h.more m).fuel.1;rw[decide_eq_true hf]at this;exact this
 have Hn:Hid (∀w1,More w w1->Calls Tryz.prog 59 #[.pointer (some ⟨M,0,none⟩)] w1 fun e w'=>e=.returned (.bool false)/\More w1 w'):=fun w1 m=>by
  have:=J5y w1 M _ ca cl cc (h.more m).next.1 (h.more m).p1.1;rw[decide_eq_false hn]at this;exact this
 clear h he hf hn;go_enter Tryz.func25,Tryz.ntmps25;go_wp2_with (fail)
 refine(Hf.out _ (More.refl _)).mono ?_;rintro e w1 ⟨rfl,m1⟩;have Hm1:Hid (More w w1):=m1;clear m1;go_wp2_with (fail)
 refine(Hn.out _ Hm1.out).mono ?_;rintro e w2 ⟨rfl,m2⟩;have Hm2:Hid (More w w2):=Hm1.out.trans m2;clear m2;go_wp2_with (fail)
 refine(J3w _ M rv (.slice ca cl cc) x se 2 (H.out.more Hm2.out)).mono ?_;rintro e w3 ⟨rfl,r3,b3⟩;have H2:Hid (Run w3 M rv (.slice ca cl cc) { x with fin:=2,ended:=true } se/\Below M w w3):=⟨r3,Below.trans (Below.mono Hm2.out (Nat.le_of_lt H.out.lt)) b3⟩;have e2:=r3.ended.1;dsimp only at e2;clear r3 b3;go_wp2;go_ret;exact⟨rfl,H2.out.1,H2.out.2⟩
end
section
open Go.RowKit
set_option linter.unusedSimpArgs false
set_option linter.unusedVariables false
theorem J9j{P:Program}(w:World)(g o:Nat)(ty:TypeId)(cs:List Value)(d:TypeDesc)(hc:∀j v,cs[j]?=some v->w.cell? ⟨g,o+j,none⟩=some v)
  (hu:P.underlying ty=some d) (hd:(match d with | .struct _ | .array _ _=>true | _=>false)=true) (hi:(P.info? ty).map (·.size)=some cs.length):
  (loadVar ty ⟨g,o,none⟩).run P w=.ok (.agg cs.toArray) w:=by
 have hl:(loadCells ⟨g,o,none⟩ cs.length).run P w=.ok cs.toArray w:=
  run_loadCells_list (P:=P) w ⟨g,o,none⟩ cs (fun j v hv=>by rw[Go.WideShapes.add_plain];exact hc j v hv)
 cases hq:P.info? ty with
 | none=>simp[hq]at hi
 | some i=>
  have hs:i.size=cs.length:=by simpa[hq]using hi
  have hagg:(isAgg ty).run P w=.ok true w:=by
   unfold isAgg;rw[Sem.run_bind,run_underlying hu w];cases d<;>simp_all
  simp[loadVar,Sem.run_bind,hagg,sizeOf,typeInfo,hq,hs,hl]

theorem J8v{P:Program}(w:World)(g o:Nat)(ty:TypeId)(cs:Array Value)(hi:(P.info? ty).map (·.size)=some cs.size)(hc:∀j,j < cs.size->∃v,Wr w g (o+j) v)(h1:∀v ∈ cs.toList,v.oneCell'=true):
  (storeVar ty ⟨g,o,none⟩ (.agg cs)).run P w=.ok () (w.setCells g o cs.toList):=by
 have hst:=run_storeCells_cells (P:=P) g o cs.toList 0 w (fun j hj=>by obtain⟨v,hv⟩:=hc j (by simpa using hj);simp[hv.1]) (fun j hj=>by obtain⟨v,hv⟩:=hc j (by simpa using hj);simp[hv.2]) h1;cases hq:P.info? ty with
 | none=>simp[hq]at hi
 | some i=>
  have hs:cs.size=i.size:=by simp[hq]at hi;omega
  simp[storeVar,sizeOf,typeInfo,hq,Value.cells,hs];simpa using hst

theorem J3p{P:Program}{o:Oper}{a:Act}{w:World}{K:Act->World->Prop}{Q:Exit->Act->World->Prop}(ty:TypeId)(x y:Operand)(ho:o.op=.store ty x y)
  (g k:Nat) (cs:Array Value) (hx:a.eval x=.pointer (some ⟨g,k,none⟩)) (hy:a.eval y=.agg cs) (hi:(P.info? ty).map (·.size)=some cs.size) (hc:∀j,j < cs.size->∃v,Wr w g (k+j) v) (h1:∀v ∈ cs.toList,v.oneCell'=true)
  (h:K (a.put o.dst undef) (w.setCells g k cs.toList)):o.wp P a w K Q:=by
 unfold Oper.wp execOp;simp only[ho,hx,hy,Instr.storeAt,Instr.sureAddr,Sem.run_bind,Sem.run_pure,Result.andThen_ok,J8v w g k ty cs hi hc h1];exact h

theorem J2d{P:Program}{o:Oper}{a:Act}{w:World}(ty:TypeId)(x:Operand)(ho:o.op=.load ty x)
  (g k:Nat) (hx:a.eval x=.pointer (some ⟨g,k,none⟩)) (cs:List Value) (d:TypeDesc) (hc:∀j v,cs[j]?=some v->w.cell? ⟨g,k+j,none⟩=some v)
  (hu:P.underlying ty=some d) (hd:(match d with | .struct _ | .array _ _=>true | _=>false)=true) (hi:(P.info? ty).map (·.size)=some cs.length):
  (execOp a.eval o).run P w=.ok (.value (.agg cs.toArray)) w:=by
 unfold execOp;simp only[ho,hx,Instr.loadAt,Instr.sureAddr,Sem.run_bind,Sem.run_pure,Result.andThen_ok,J9j w g k ty cs d hc hu hd hi]

theorem Jgl{P:Program}{o:Oper}{a:Act}{w:World}(t:TypeId)(parts:Array (Nat × Operand))(ho:o.op=.build t parts)(C:Array Value)
  (hf:P.built t (parts.map fun(i,x)=>(i,a.eval x)).toList=some C):(execOp a.eval o).run P w=.ok (.value (.agg C)) w:=by
 unfold execOp;simp only[ho,Sem.run_bind,run_build w t _ C hf,Result.andThen_ok,Sem.run_pure]
end
section
open Go.ChangeMaps (setBlock heap_setBlock_same heap_setBlock_other)
open Go.MapKept (Stamped stamped_push stamped_modify stamped_empty)
open Go.RowKit
open Go.WideMaps (KeyLaw)
set_option linter.unusedSimpArgs false
set_option linter.unusedVariables false
set_option maxRecDepth 8000
theorem Jno:laidOutB Tryz.prog=true:=by kernel_rfl
theorem Jp6:(171:TypeId) < Tryz.prog.types.size:=of_decide_eq_true (by kernel_rfl)
theorem Jog:(match Tryz.prog.underlying 171 with | some (.array _ _) | some (.struct _)=>true | _=>false)=true:=by kernel_rfl
theorem law127:KeyLaw Tryz.prog 171:=deep_law_laid Jno (m:=3) (by omega) Jp6 (by kernel_rfl) Jog
theorem Jk6:Tryz.prog.cellsOf 171=2:=by kernel_rfl
theorem Jng:Tryz.prog.cellsOf 2=1:=by kernel_rfl
theorem Jnh:Tryz.prog.cellsOf 3=1:=by kernel_rfl
theorem Jgy:Tryz.prog.keyType 171=true:=by kernel_rfl

def pk(n t:Int):Value:=.agg #[V n,V t]
theorem Jn1{n t n' t':Int}(h:pk n t=pk n' t'):n=n'/\t=t':=by
 unfold pk at h;simp at h;exact h

theorem Jml{n:Int}(h:B64 n):(Lit.int .i64 n).wf=true:=by
 unfold B64 at h;simp[Lit.wf,IntKind.min,IntKind.max,IntKind.signed,IntKind.bits];omega

theorem Jit{P:Program}{k:TypeId}{f1 f2:Field}{m:Nat}(hu:P.underlying k=some (.struct #[f1,f2]))(hkt:P.keyType k=true)(hc:P.cellsOf k=2)(hn:(#[f1,f2].all (·.name != "_"))=true)(o1:f1.offset=0)(o2:f2.offset=1)
  (u1:P.underlying f1.type=some (.int .i64)) (u2:P.underlying f2.type=some (.int .i64)) (c1:P.cellsOf f1.type=1) (c2:P.cellsOf f2.type=1) (hm:P.types.size+1=m+2) {a b:Int} (h1:(Lit.int .i64 a).wf=true) (h2:(Lit.int .i64 b).wf=true):
  keyOf P k (.agg #[.int .i64 a,.int .i64 b])=some (.string (keyBytes [Lit.int .i64 a,Lit.int .i64 b])):=by
 unfold keyOf;simp only[hu];rw[if_pos (by simp[hkt,Value.formed,hu,hc]),hm];unfold Program.keyLits;simp only[hu,Value.cells];rw[if_pos ⟨by rw[hc];rfl,hn⟩];simp[List.mapM_cons,o1,o2,c1,c2,Program.keyLits,u1,u2,h1,h2]

theorem Jfz{n t:Int}(hn:B64 n)(ht:B64 t):∃l,keyOf Tryz.prog 171 (pk n t)=some l:=
 ⟨_,Jit (m:=246) Tryz.underlying171 Jgy Jk6 (by simp) rfl rfl Tryz.underlying2 Tryz.underlying3 Jng Jnh (by kernel_rfl) (Jml hn) (Jml ht)⟩

structure MapAt(w:World)(b:Nat)(f:Int->Int->Int):Prop where
 out:∃es clock,w.heap[b]?=some (.map es clock)/\Stamped es clock/\(∀e ∈ es.toList,∃n t,B64 n/\B64 t/\e.key=pk n t/\e.val=V (f n t))/\(∀n t,(∀e ∈ es.toList,e.key≠pk n t)->f n t=0)

theorem MapAt.lt{w:World}{b:Nat}{f:Int->Int->Int}(h:MapAt w b f):b < w.heap.size:=by
 obtain⟨es,clock,hb,_⟩:=h.out;exact(Array.getElem?_eq_some_iff.1 hb).1
theorem MapAt.block{w w':World}{b:Nat}{f:Int->Int->Int}(h:MapAt w b f)(hb:w'.heap[b]?=w.heap[b]?):MapAt w' b f:=by
 obtain⟨es,clock,h1,h2⟩:=h.out;exact⟨es,clock,hb.trans h1,h2⟩
theorem MapAt.made(w:World):MapAt (w.alloc (.map #[] 0)) w.heap.size (fun _ _=>0):=
 ⟨#[],0,(MapKept.heap_alloc w _).1,stamped_empty 0,by simp,fun _ _ _=>rfl⟩

theorem MapAt.look{w:World}{b:Nat}{f:Int->Int->Int}(h:MapAt w b f){n t:Int}(hn:B64 n)(ht:B64 t):(Instr.lookup 92 (.map (some b)) (pk n t) false).run Tryz.prog w=.ok (V (f n t)) w:=by
 obtain⟨es,clock,hb,hs,he,hz⟩:=h.out;obtain⟨l,hkey⟩:=Jfz hn ht;have hzero:(zeroValue 2).run Tryz.prog w=.ok (V 0) w:=by kernel_rfl
 rcases law127.find w hkey es.toList (fun e hm=>by obtain⟨n',t',h1,h2,h3,_⟩:=he e hm;rw[h3];exact Jfz h1 h2) with⟨h1,h2⟩ | ⟨j,e0,h1,h2,h3⟩
 ·rw[hz n t h2]
  simp[Instr.lookup,run_underlying Tryz.underlying92,MapKept.run_getObj_map hb,law127.check w _ hkey,h1,hzero,Result.andThen]
 ·obtain⟨n',t',_,_,h5,h6⟩:=he e0 (List.mem_of_getElem? h2)
  obtain⟨rfl,rfl⟩:=Jn1 (h3.symm.trans h5);simp[Instr.lookup,run_underlying Tryz.underlying92,MapKept.run_getObj_map hb,law127.check w _ hkey,h1,h6,Result.andThen]

theorem MapAt.update{w:World}{b:Nat}{f:Int->Int->Int}(h:MapAt w b f){n t:Int}(hn:B64 n)(ht:B64 t)(v:Int):
  ∃w',(Instr.mapUpdate 92 (.map (some b)) (pk n t) (V v)).run Tryz.prog w=.ok () w'/\MapAt w' b (fun n' t'=>if n'=n/\t'=t then v else f n' t')/\w.grownBy w' (some b):=by
 obtain⟨es,clock,hb,hs,he,hz⟩:=h.out;obtain⟨l,hkey⟩:=Jfz hn ht;have grown:∀o,w.grownBy (setBlock w b o) (some b):=fun o=>⟨rfl,rfl,rfl,by simp[setBlock],fun i _ hi=>heap_setBlock_other hb _ (fun e=>hi (by rw[e]))⟩
 rcases law127.find w hkey es.toList (fun e hm=>by obtain⟨n',t',h1,h2,h3,_⟩:=he e hm;rw[h3];exact Jfz h1 h2) with⟨h1,h2⟩ | ⟨j,e0,h1,h2,h3⟩
 ·refine⟨setBlock w b (.map (es.push ⟨pk n t,V v,clock⟩) (clock+1)),?_,⟨_,_,heap_setBlock_same hb _,stamped_push hs h2,fun e hm=>?_,fun n' t' ha=>?_⟩,grown _⟩
  ·simp[Instr.mapUpdate,run_underlying Tryz.underlying92,MapKept.run_getObj_map hb,law127.check w false hkey,h1,MapKept.run_setObj_map _ hb,Result.andThen,setBlock]
  ·simp only[Array.toList_push,List.mem_append,List.mem_singleton]at hm
   rcases hm with hm | rfl
   ·obtain⟨n',t',a1,a2,a3,a4⟩:=he e hm
    refine⟨n',t',a1,a2,a3,?_⟩;rw[if_neg (fun hh=>h2 e hm (by rw[a3,hh.1,hh.2]))];exact a4
   ·exact⟨n,t,hn,ht,rfl,by rw[if_pos ⟨rfl,rfl⟩]⟩
  ·simp only[Array.toList_push,List.mem_append,List.mem_singleton]at ha
   have h4:¬(n'=n/\t'=t):=fun hh=>ha ⟨pk n t,V v,clock⟩ (.inr rfl) (by rw[hh.1,hh.2])
   rw[if_neg h4];exact hz n' t' (fun e hm=>ha e (.inl hm))
 ·have hj:es[j]?=some e0:=by simpa using h2
  have hjl:j < es.toList.length:=(List.getElem?_eq_some_iff.1 h2).1;have hlist:(es.modify j (fun e'=>{ e' with key:=pk n t,val:=V v })).toList=es.toList.set j { e0 with key:=pk n t,val:=V v }:=by rw[Array.toList_modify,ChangeMaps.modify_eq_set _ _ _ _ h2]
  refine⟨setBlock w b (.map (es.modify j (fun e'=>{ e' with key:=pk n t,val:=V v })) clock),?_,⟨_,_,heap_setBlock_same hb _,stamped_modify hs _ _ (fun _ _=>rfl) (fun e' _ he'=>by rw[hj]at he';cases he';exact h3.symm),fun e hm=>?_,fun n' t' ha=>?_⟩,grown _⟩
  ·simp[Instr.mapUpdate,run_underlying Tryz.underlying92,MapKept.run_getObj_map hb,law127.check w false hkey,h1,hj,h3,law127.stays w hkey,MapKept.run_setObj_map _ hb,Result.andThen,setBlock]
  ·rw[hlist]at hm
   obtain⟨i,hi,ex⟩:=List.getElem_of_mem hm;rw[List.getElem_set]at ex
   split at ex
   ·subst ex
    exact⟨n,t,hn,ht,rfl,by rw[if_pos ⟨rfl,rfl⟩]⟩
   ·rename_i hne
    have hi':i < es.toList.length:=by simpa using hi
    have hm':e ∈ es.toList:=ex▸List.getElem_mem hi';obtain⟨n',t',a1,a2,a3,a4⟩:=he e hm';refine⟨n',t',a1,a2,a3,?_⟩;rw[if_neg (fun hh=>?_)]
    ·exact a4
    have hk:e.key=e0.key:=by rw[a3,h3,hh.1,hh.2]
    have hnd:=hs.2.2
    have e1:(es.toList.map (·.key))[i]?=(es.toList.map (·.key))[j]?:=by
     rw[List.getElem?_map,List.getElem?_map,h2,List.getElem?_eq_getElem hi',ex];simp[hk]
    exact hne (((List.getElem?_inj (by simpa using hi') hnd).1 e1).symm)
  ·rw[hlist]at ha
   have h4:¬(n'=n/\t'=t):=fun hh=>ha { e0 with key:=pk n t,val:=V v } (List.mem_iff_getElem.2 ⟨j,by simpa using hjl,by simp⟩) (by rw[hh.1,hh.2])
   rw[if_neg h4];refine hz n' t' (fun e hm hk=>?_);obtain⟨i,hi,ex⟩:=List.getElem_of_mem hm;by_cases e1:j=i
   ·subst e1
    have:e=e0:=by rw[<-ex];exact(List.getElem?_eq_some_iff.1 h2).2
    subst this;exact h4 (by obtain⟨a,b⟩:=Jn1 (hk.symm.trans h3);exact⟨a,b⟩)
   ·exact ha e (List.mem_iff_getElem.2 ⟨i,by simpa using hi,by rw[List.getElem_set,if_neg e1];exact ex⟩) hk

theorem Joh{o:Oper}{a:Act}{w:World}{K:Act->World->Prop}{Q:Exit->Act->World->Prop}(m x:Operand)(ho:o.op=.lookup 92 m x false)(b:Nat)(f:Int->Int->Int)(n t:Int)
  (hm:a.eval m=.map (some b)) (hx:a.eval x=pk n t) (hM:MapAt w b f) (hn:B64 n) (ht:B64 t) (h:K (a.put o.dst (V (f n t))) w):o.wp Tryz.prog a w K Q:=by
 unfold Oper.wp execOp;simp only[ho,hm,hx,hM.look hn ht,Sem.run_bind,Sem.run_pure,Result.andThen_ok];exact h
theorem Jjw{o:Oper}{a:Act}{w:World}{K:Act->World->Prop}{Q:Exit->Act->World->Prop}(m x y:Operand)(ho:o.op=.mapUpdate 92 m x y)(b:Nat)(f:Int->Int->Int)(n t v:Int)
  (hm:a.eval m=.map (some b)) (hx:a.eval x=pk n t) (hy:a.eval y=V v) (hM:MapAt w b f) (hn:B64 n) (ht:B64 t)
  (h:∀w',MapAt w' b (fun n' t'=>if n'=n/\t'=t then v else f n' t')->w.grownBy w' (some b)->K (a.put o.dst undef) w'):o.wp Tryz.prog a w K Q:=by
 obtain⟨w',h1,h2,h3⟩:=hM.update hn ht v;unfold Oper.wp execOp;simp only[ho,hm,hx,hy,h1,Sem.run_bind,Sem.run_pure,Result.andThen_ok];exact h w' h2 h3
theorem Jf6{ops:Array Oper}{rest:List Oper}{o:Oper}{a:Act}{w:World}{Q:Exit->Act->World->Prop}(hgd:o.guard=none)(m x:Operand)(ho:o.op=.lookup 92 m x false)(b:Nat)(f:Int->Int->Int)(n t:Int)
  (hm:a.eval m=.map (some b)) (hx:a.eval x=pk n t) (hM:MapAt w b f) (hn:B64 n) (ht:B64 t) (h:wpList Tryz.prog ops Q rest (a.put o.dst (V (f n t))) w):wpList Tryz.prog ops Q (o::rest) a w:=
 wpList_plain hgd fun _ hK=>Joh m x ho b f n t hm hx hM hn ht (hK _ _ h)
end
section
open Go.RowKit
theorem J5r(ra:Option Addr)(rl rc:Nat)(ca:Option Addr)(cl cc:Nat)(ma:Option Addr)(ml mc:Nat)(rb ro mb mo:Nat)(log:Nat->Int)(sec:Nat->Bool)(A:Nat->Option Addr)(L C:Nat->Nat)(w:World)
  (hra:0 < rl->ra=some ⟨rb,ro,none⟩) (hr:RegsAt w rb ro rl log sec) (hma:0 < ml->ma=some ⟨mb,mo,none⟩) (hm:ListsAt w mb mo ml A L C):
  Calls Tryz.prog 56 #[.agg #[.slice ra rl rc,.slice ca cl cc],.slice ma ml mc] w (Says (J2r rl log ml L) w):=by
 have Hr:Hid ((0 < rl->ra=some ⟨rb,ro,none⟩)/\RegsAt w rb ro rl log sec):=⟨hra,hr⟩;have Hl:Hid ((0 < ml->ma=some ⟨mb,mo,none⟩)/\ListsAt w mb mo ml A L C):=⟨hma,hm⟩;clear hra hr hma hm;have m0:More w ((w.alloc (.cells #[.slice ra rl rc,.slice ca cl cc] 28)).alloc (.cells #[.slice ra rl rc,.slice ca cl cc,V 0,V 0] 133)):=((More.refl _).alloc _ _).alloc _ _;have Hm0:Hid (More w ((w.alloc (.cells #[.slice ra rl rc,.slice ca cl cc] 28)).alloc (.cells #[.slice ra rl rc,.slice ca cl cc,V 0,V 0] 133))):=m0;clear m0;go_enter Tryz.func56,Tryz.ntmps56;go_wp2_with (fail)
 refine(J6f ra rl rc ca cl cc 0 0 rb ro log sec _ Hr.out.1 (Hr.out.2.more Hm0.out)).mono ?_;rintro e w1 ⟨r,rfl,h,m1⟩;have e0:w1.cell? ⟨w.heap.size,0,none⟩=some (.slice ra rl rc):=m1.cell (by go_simp);have e1:w1.cell? ⟨w.heap.size,1,none⟩=some (.slice ca cl cc):=m1.cell (by go_simp);have Hm1:Hid (More w w1):=Hm0.out.trans m1;clear m1 Hm0;cases r with
 | false=>
  have HA:Hid (¬J0r rl log):=fun k=>by simpa using h.2 k
  clear h;go_wp2;go_ret;exact Says.no (fun h=>HA.out h.1) Hm1.out
 | true=>
  have HA:Hid (J0r rl log):=h.1 rfl;clear h;by_cases hne:(ml:Int)=(rl:Int)
  ·obtain rfl:ml=rl:=by omega
   clear hne;have h6:ml<=6:=HA.out.1;go_wp2;go_loopg [22] ml (fun g i wr=>∃k:Nat,k+g=ml/\i=V k/\(∀j,j < k->(L j:Int)=J0h (log j))/\More w1 wr)
   case atStart=>exact⟨0,by omega,rfl,fun j hj=>by omega,More.refl _⟩
   case round=>
    obtain⟨k,hkg,rfl,hin,m⟩:=hrel;have Hm:Hid (More w1 wr/\∀j,j < k->(L j:Int)=J0h (log j)):=⟨m,hin⟩;clear m hin e0 e1;cases gk with
    | zero=>
     obtain rfl:k=ml:=by omega
     go_wp2;go_ret;exact Says.yes ⟨HA.out,rfl,Hm.out.2⟩ (Hm1.out.trans Hm.out.1)
    | succ g=>
     have hk:k < ml:=by omega
     have hk':(k:Int) < (ml:Int):=by omega
     have hk0:(0:Int)<=(k:Int):=by omega
     obtain rfl:=Hr.out.1 (by omega);obtain rfl:=Hl.out.1 (by omega);have Hww:Hid (More w wr):=Hm1.out.trans Hm.out.1;have q0:=((Hr.out.2.more Hww.out) k hk).1;have q1:=((Hr.out.2.more Hww.out) k hk).2;have q2:=(Hl.out.2.more Hww.out) k hk;have Hlog:Hid (0<=log k/\log k<=6):=HA.out.2 k hk;obtain⟨lk,hlk⟩:∃x,log k=x:=⟨_,rfl⟩;rw[hlk]at q0 Hlog;have Hlk:Hid (log k=lk):=hlk;clear hlk;obtain⟨W,HW⟩:∃W:World,Hid (W=wr.alloc (.cells #[V lk,.bool (sec k)] 76)):=⟨_,rfl⟩;have HwW:Hid (More wr W):=HW.out▸((More.refl _).alloc _ _);obtain⟨S,HS⟩:∃S:World->Prop,Hid (∀w',S w'↔More W w'):=⟨fun w'=>More W w',fun _=>Iff.rfl⟩;have k2:∀i:{ w' // S w' },i.val.cell? ⟨mb,mo+k,none⟩=some (.slice (A k) (L k) (C k)):=fun i=>((HS.out _).1 i.property).cell (HwW.out.cell q2)
     have d0:∀i:{ w' // S w' },i.val.cell? ⟨wr.heap.size,0,none⟩=some (V lk):=fun i=>((HS.out _).1 i.property).cell (by rw[HW.out];go_simp)
     have d1:∀i:{ w' // S w' },i.val.cell? ⟨wr.heap.size,1,none⟩=some (.bool (sec k)):=fun i=>((HS.out _).1 i.property).cell (by rw[HW.out];go_simp)
     have hne:Nonempty { w' // S w' }:=⟨⟨W,(HS.out _).2 (More.refl _)⟩⟩;go_wp2_with (fail)
     clear q0 q1 q2;refine J04 (S:=S) [(0,true),(1,true),(2,true),(3,true),(4,true),(5,true),(6,false),(7,true)] (by kernel_rfl) (by kernel_rfl) (by kernel_rfl) ((HS.out _).2 (HW.out▸(More.refl _).drew)) ?_
     iterate 6 (refine J00 rfl (by kernel_rfl) (fun K hK=>?_);go_simp;refine hK _ _ ?_;clear hK K)
     refine J03 rfl (by kernel_rfl) (fun K hK=>?_);go_simp;obtain⟨nw,hnw⟩:∃x,J0h lk=x:=⟨_,rfl⟩;refine(Jdj lk Hlog.out.1 Hlog.out.2 nw hnw.symm (sec k) _).mono ?_;have Hnw:Hid (J0h (log k)=nw):=by rw[Hlk.out];exact hnw
     clear hnw;rintro e w2 ⟨rfl,m2⟩;have Hm2:Hid (More W w2):=HW.out▸(More.trans (More.refl _).drew m2);clear m2
     go_simp
     refine hK _ _ ((HS.out _).2 Hm2.out) ?_;clear hK K;by_cases hq:(L k:Int)=nw
     ·have Hq:Hid ((L k:Int)=nw):=hq
      have heq:((L k:Int) != nw)=false:=by simp[hq]
      clear hq;refine J00 rfl (by kernel_rfl) (fun K hK=>?_);go_simp;refine hK _ _ ?_;clear hK K;refine J06 ?_;clear heq k2 d0 d1 hne;go_wp2;go_roundg g
      case measure=>omega
      case rel=>
       refine⟨k+1,by omega,by first | rfl | simp,fun j hj=>?_,(Hm.out.1.trans HwW.out).trans Hm2.out⟩;by_cases e:j=k
       ·subst e;rw[Hq.out,Hnw.out]
       ·exact Hm.out.2 j (by omega)
     ·have Hq:Hid (¬(L k:Int)=nw):=hq
      have heq':((L k:Int) != nw)=true:=by simp[hq]
      clear hq;refine J00 rfl (by kernel_rfl) (fun K hK=>?_);go_simp;refine hK _ _ ?_;clear hK K;refine J06 ?_;clear heq' k2 d0 d1 hne;go_wp2;go_ret;exact Says.no (fun h=>Hq.out (by rw[<-Hnw.out];exact h.2.2 k hk)) ((Hww.out.trans HwW.out).trans Hm2.out)
  ·go_wp2
   go_ret;exact Says.no (fun h=>by have:=h.2.1;omega) Hm1.out
end
section
open Go.RowKit
set_option linter.unusedSimpArgs false
set_option linter.unusedVariables false
set_option maxRecDepth 8000
def rowOf(rv cv:Value)(x:Ms):Array Value:=((List.range 411).map (cellF rv cv x)).toArray
theorem Jm0(rv cv:Value)(x:Ms):MC (rowOf rv cv { x with tl:=fun _=>none }) rv cv { x with tl:=fun _=>none }:=⟨by simp[rowOf],fun j hj=>by simp[rowOf,hj],fun j hj=>by simp[rowOf];omega⟩
def ms0(fuel:Int):Ms:=⟨0,0,0,.slice none 0 0,.slice none 0 0,fun _=>0,fun _=>0,0,fuel,false,fun _=>0,84,fun _=>none,[]⟩
theorem MC.one{c:Array Value}{rv cv:Value}{x:Ms}(h:MC c rv cv x)(h0:rv.oneCell'=true)(h1:cv.oneCell'=true)(h2:x.sv.oneCell'=true)(h3:x.mv.oneCell'=true)(h4:x.tl 411=none):c.all (·.oneCell')=true:=by
 rw[Array.all_eq_true];intro i hi;have:=h.at_ i (by rw[<-h.size h4];exact hi);rw[Array.getElem?_eq_getElem hi]at this;rw[Option.some.inj this];unfold cellF;by_cases e0:i=0
 ·rw[if_pos e0];exact h0
 rw[if_neg e0];by_cases e1:i=1
 ·rw[if_pos e1];exact h1
 rw[if_neg e1];by_cases e2:i=2
 ·rw[if_pos e2];rfl
 rw[if_neg e2];by_cases e3:i=3
 ·rw[if_pos e3];rfl
 rw[if_neg e3];by_cases e4:i=4
 ·rw[if_pos e4];rfl
 rw[if_neg e4];by_cases e5:i=5
 ·rw[if_pos e5];exact h2
 rw[if_neg e5];by_cases e6:i=6
 ·rw[if_pos e6];exact h3
 rw[if_neg e6];by_cases e7:i < 17
 ·rw[if_pos e7];rfl
 rw[if_neg e7];by_cases e8:i < 401
 ·rw[if_pos e8];rfl
 rw[if_neg e8];by_cases e9:i=401
 ·rw[if_pos e9];rfl
 rw[if_neg e9];by_cases e10:i=402
 ·rw[if_pos e10];rfl
 rw[if_neg e10];by_cases e11:i=403
 ·rw[if_pos e11];rfl
 rw[if_neg e11]
 rfl

theorem Jow:(Tryz.prog.info? 84).map (fun i=>(i.zero,i.size))=some (some (.agg (rowOf (.slice none 0 0) (.slice none 0 0) (ms0 0))),411):=by kernel_rfl
theorem Jc7:Tryz.prog.built 84 []=some (rowOf (.slice none 0 0) (.slice none 0 0) (ms0 0)):=by kernel_rfl
theorem J1y{P:Program}{fn:Func}{p u:Tmp}{ty:TypeId}(h:fn.results=#[.cell p ty,.tmp u])(tmps:Array Value)(w:World)(g:Nat)(t:TypeId)(cs:Array Value)(fr:Nat × Nat)(d:TypeDesc)
  (hp:tmps.getD p undef=.pointer (some ⟨g,0,none⟩)) (hg:w.heap[g]?=some (.cells cs t fr))
  (hu:P.underlying ty=some d) (hd:(match d with | .struct _ | .array _ _=>true | _=>false)=true) (hi:(P.info? ty).map (·.size)=some cs.size):
  (results fn tmps).run P w=.ok (.tuple #[.agg cs,tmps.getD u undef]) w:=by
 have hp':tmps[p]?.getD undef=.pointer (some ⟨g,0,none⟩):=by simpa using hp
 simp[results,h,hp',asAddr,run_loadVar_row w g t ty cs fr d hg hu hd hi]

theorem Jbu{P:Program}{o:Oper}{a:Act}{w:World}{K:Act->World->Prop}{Q:Exit->Act->World->Prop}(d s:Operand)(dT sT:TypeId)
  (ho:o.op=.call { callee:=.builtin .copy,args:=#[d,s],argTypes:=#[dT,sT]}) (elem:TypeId) (hu:P.underlying dT=some (.slice elem)) (hsz:(P.info? elem).map (·.size)=some 1)
  (b off dLen dCap:Nat) (ad:Addr) (sLen sCap:Nat) (hd:a.eval d=.slice (some ⟨b,off,none⟩) dLen dCap) (hs:a.eval s=.slice (some ad) sLen sCap) (cs:List Value) (hn:cs.length=Nat.min sLen dLen)
  (hsrc:∀j v,cs[j]?=some v->w.cell? (ad.add j)=some v) (hc:∀j,j < cs.length->(w.cell? ⟨b,off+j,none⟩).isSome=true) (hf:∀j,j < cs.length->w.frozen? ⟨b,off+j,none⟩=false) (h1:∀v ∈ cs,v.oneCell'=true)
  (h:K (a.put o.dst (goInt cs.length)) (w.setCells b off cs)):Oper.wp P o a w K Q:=by
 have hrun:=run_copy_cells (P:=P) w dT sT o.type elem b off dLen dCap ad sLen sCap cs hu hsz hn hsrc hc hf h1;unfold Oper.wp;simp[execOp,ho,resolve,invoke,builtin,hd,hs,hrun,Result.andThen];exact h

def intsN(f:Nat->Int)(n:Nat):List Value:=(List.range n).map fun j=>V (f j)
theorem J1x(f:Nat->Int)(n:Nat):(intsN f n).length=n:=by simp[intsN]
theorem Jl4(f:Nat->Int)(n j:Nat)(h:j < n):(intsN f n)[j]?=some (V (f j)):=by simp[intsN,h]
theorem Jgt(f:Nat->Int)(n:Nat):intsN f (n+1)=V (f 0)::intsN (fun j=>f (j+1)) n:=by simp[intsN,List.range_succ_eq_map]

theorem J0t(M:Nat):∀(vs:List Value) (o:Nat) (w:World),w.grownBy (w.setCells M o vs) (some M)
 | [],o,w=>J0u _ _
 | v::vs,o,w=>J25 (J19 w M o v) (J0t M vs (o+1) _)

theorem MAt.fill{M:Nat}{rv cv:Value}:∀(n:Nat) (f:Nat->Int) (k:Nat) (x:Ms) (w:World),MAt w M rv cv x->k+n<=384->
  ∃W,MAt (w.setCells M (17+k) (intsN f n)) M rv cv { x with wd:=W }/\(∀j,j < n->W (k+j)=f j)/\(∀j,j < k->W j=x.wd j)
 | 0,f,k,x,w,h,_=>⟨x.wd,h,fun j hj=>by omega,fun j _=>rfl⟩
 | n+1,f,k,x,w,h,hk=>by
  obtain⟨W,h1,h2,h3⟩:=MAt.fill n (fun j=>f (j+1)) (k+1) { x with wd:=setN x.wd k (f 0)} (w.setCell ⟨M,17+k,none⟩ (V (f 0))) (h.setWd k (by omega) (f 0)) (by omega);refine⟨W,?_,fun j hj=>?_,fun j hj=>?_⟩
  ·rw[Jgt]
   exact h1
  ·cases j with
   | zero=>
    have:=h3 k (by omega);dsimp only at this;rw[Nat.add_zero,this];simp[setN]
   | succ j=>
    have:=h2 j (by omega);rw[show k+(j+1)=k+1+j by omega];exact this
  ·have:=h3 j (by omega)
   dsimp only at this;rw[this];unfold setN;rw[if_neg (by omega)]

structure Nw(w wr:World)(rv cv:Value)(B:Nat)(m:Mem)(fuel:Int)(z:Array Value)(k:Nat)(W S:Nat->Int):Prop where
 more:More w wr
 lo:w.heap.size+2<=B
 at_:MAt wr B rv cv { ms0 fuel with wd:=W,st:=S }
 st:∀j,j<=k->S j=(baseN m.len j:Int)
 wd:∀j,j < k->∀i,i < m.len j->W (baseN m.len j+i)=m.wd j i
 res:wr.heap[w.heap.size+1]?=some (.cells z 84 (0,0))

theorem Nw.step{w wr:World}{rv cv:Value}{B:Nat}{m:Mem}{fuel:Int}{z:Array Value}{k:Nat}{W S:Nat->Int}(h:Nw w wr rv cv B m fuel z k W S)(hk:k < 6)(hle:baseN m.len (k+1)<=384)(n:Int)(hn:n=(baseN m.len (k+1):Int)):
  ∃W' S',Nw w (((wr.drew).setCells B (17+baseN m.len k) (intsN (m.wd k) (m.len k))).setCell ⟨B,404+(k+1),none⟩ (V n)) rv cv B m fuel z (k+1) W' S':=by
 subst hn;obtain⟨W',h1,h2,h3⟩:=MAt.fill (m.len k) (m.wd k) (baseN m.len k) _ wr.drew h.at_.drew (by simpa[baseN]using hle);have hlo:=h.lo
 have g0:wr.grownBy (((wr.drew).setCells B (17+baseN m.len k) (intsN (m.wd k) (m.len k))).setCell ⟨B,404+(k+1),none⟩ (V (baseN m.len (k+1):Int))) (some B):=
  J0s (J25 (J3t wr _) (J0t B _ _ _)) _ _
 refine⟨W',setN S (k+1) (baseN m.len (k+1):Int),h.more.grownBy g0 (fun b hb=>by have:=Option.some.inj hb;omega),h.lo,h1.setSt (k+1) (by omega) _,fun j hj=>?_,fun j hj i hi=>?_,?_⟩
 ·unfold setN
  by_cases e:j=k+1
  ·rw[if_pos e,e]
  ·rw[if_neg e];exact h.st j (by omega)
 ·by_cases e:j=k
  ·subst e;exact h2 i hi
  ·have hlt:baseN m.len j+i < baseN m.len k:=by
    have:=J3q m.len (j+1) k (by omega);simp only[baseN]at this;omega
   rw[h3 _ hlt];exact h.wd j (by omega) i hi
 ·have hsz:w.heap.size+1 < wr.heap.size:=by
   rcases Nat.lt_or_ge (w.heap.size+1) wr.heap.size with h' | h'
   ·exact h'
   ·have:=h.res
    rw[Array.getElem?_eq_none h']at this;cases this
  rw[g0.block (w.heap.size+1) hsz (by simp;omega)];exact h.res
structure Tl where
 sc:Value
 mb:Nat
 puts:Nat->Int
 ahead:Bool
 br:Nat->Int
 bw:Nat->Int
 bn:Int
 bp:Nat->Int
 til:Int

def tlV(q:Tl)(j:Nat):Value:=
 if j=411 then q.sc else if j=412 then .map (some q.mb) else if j < 797 then V (q.puts (j - 413)) else if j=797 then .bool q.ahead
 else if j < 808 then V (q.br (j - 798)) else if j < 1192 then V (q.bw (j - 808)) else if j=1192 then V q.bn else if j < 1577 then V (q.bp (j - 1193)) else V q.til
def tlF(q:Tl)(j:Nat):Option Value:=if j < 1578 then some (tlV q j) else none

theorem J95(q:Tl)(j:Nat)(hj:j < 1578):tlF q j=some (tlV q j):=by unfold tlF;rw[if_pos hj]
theorem Jbs(q:Tl)(j:Nat)(hj:j < 384):tlV q (413+j)=V (q.puts j):=by
 unfold tlV;rw[if_neg (by omega),if_neg (by omega),if_pos (by omega),show 413+j - 413=j by omega]
theorem Jn7(q:Tl)(j:Nat)(hj:j < 10):tlV q (798+j)=V (q.br j):=by
 unfold tlV;rw[if_neg (by omega),if_neg (by omega),if_neg (by omega),if_neg (by omega),if_pos (by omega),show 798+j - 798=j by omega]
theorem Jn8(q:Tl)(j:Nat)(hj:j < 384):tlV q (808+j)=V (q.bw j):=by
 unfold tlV;rw[if_neg (by omega),if_neg (by omega),if_neg (by omega),if_neg (by omega),if_neg (by omega),if_pos (by omega),show 808+j - 808=j by omega]
theorem Jn6(q:Tl)(j:Nat)(hj:j < 384):tlV q (1193+j)=V (q.bp j):=by
 unfold tlV;rw[if_neg (by omega),if_neg (by omega),if_neg (by omega),if_neg (by omega),if_neg (by omega),if_neg (by omega),if_neg (by omega),if_pos (by omega),show 1193+j - 1193=j by omega]

def stL(r wd:Nat->Int)(n:Int):List Value:=(List.range 395).map fun j=>if j < 10 then V (r j) else if j < 394 then V (wd (j - 10)) else V n
def puL(f:Nat->Int):List Value:=(List.range 384).map fun j=>V (f j)
theorem J0w(r wd:Nat->Int)(n:Int):(stL r wd n).length=395:=by simp[stL]
theorem J1i(f:Nat->Int):(puL f).length=384:=by simp[puL]
theorem Jab(r wd:Nat->Int)(n:Int)(j:Nat)(hj:j < 395):(stL r wd n)[j]?=some (if j < 10 then V (r j) else if j < 394 then V (wd (j - 10)) else V n):=by simp[stL,hj]
theorem Jg5(f:Nat->Int)(j:Nat)(hj:j < 384):(puL f)[j]?=some (V (f j)):=by simp[puL,hj]
theorem Jjo(r wd:Nat->Int)(n:Int):∀v ∈ stL r wd n,v.oneCell'=true:=by
 intro v hv;simp only[stL,List.mem_map]at hv;obtain⟨j,_,rfl⟩:=hv
 split
 ·rfl
 ·split<;>rfl
theorem Jjf(f:Nat->Int):∀v ∈ puL f,v.oneCell'=true:=by
 intro v hv;simp only[puL,List.mem_map]at hv;obtain⟨j,_,rfl⟩:=hv
 rfl

theorem MAt.splice{w:World}{M:Nat}{rv cv:Value}{x x':Ms}(h:MAt w M rv cv x)(o:Nat)(vs:List Value)(hT:x'.T=x.T)(hfit:o+vs.length<=411\/∃v,x.tl (o+vs.length - 1)=some v)(h0:0 < vs.length)
  (h1:∀j,j < 411->(if o<=j/\j < o+vs.length then vs[j - o]? else some (cellF rv cv x j))=some (cellF rv cv x' j)) (h2:∀j,411<=j->(if o<=j/\j < o+vs.length then vs[j - o]? else x.tl j)=x'.tl j):MAt (w.setCells M o vs) M rv cv x':=by
 obtain⟨c,hh,hc⟩:=h.out
 have hsz:o+vs.length<=c.size:=by
  rcases hfit with h3 | ⟨v,hv⟩
  ·have:=hc.big;omega
  ·by_cases e:o+vs.length<=411
   ·have:=hc.big;omega
   ·have h4:=hc.tail (o+vs.length - 1) (by omega)
    rw[hv]at h4;have:=(Array.getElem?_eq_some_iff.1 h4).1;omega
 obtain⟨c',k1,k2,k3⟩:=J4y vs o c w hh hsz;refine⟨c',by rw[hT];exact k1,by rw[k2];exact hc.big,fun j hj=>?_,fun j hj=>?_⟩
 ·rw[k3 j,<-h1 j hj,hc.at_ j hj]
 ·rw[k3 j,<-h2 j hj,hc.tail j hj]

structure RunS(w:World)(M:Nat)(rv cv:Value)(x:Ms)(q:Tl)(se:List Se):Prop where
 run:Run w M rv cv { x with T:=98,tl:=tlF q } se

section
variable {w w':World} {M:Nat} {rv cv:Value} {x x':Ms} {q q':Tl} {se:List Se}
theorem RunS.lt(h:RunS w M rv cv x q se):M < w.heap.size:=h.run.lt
theorem RunS.more(h:RunS w M rv cv x q se)(m:More w w'):RunS w' M rv cv x q se:=⟨h.run.more m⟩
theorem RunS.left(h:RunS w M rv cv x q se){p:Nat × Obj}(hp:p ∈ x.mo):w.heap[p.1]?=some p.2:=h.run.left hp
theorem RunS.beside(h:RunS w M rv cv x q se)(o:Obj):RunS (w.alloc o) M rv cv { x with mo:=(w.heap.size,o)::x.mo } q se:=⟨h.run.beside o⟩
theorem RunS.fewer(h:RunS w M rv cv x q se)(l:List (Nat × Obj))(hl:∀p ∈ l,p ∈ x.mo):RunS w M rv cv { x with mo:=l } q se:=⟨h.run.fewer l hl⟩
theorem RunS.drew(h:RunS w M rv cv x q se):RunS w.drew M rv cv x q se:=⟨h.run.drew⟩
theorem RunS.kept(h:RunS w M rv cv x q se){row:Option Nat}(hg:w.grownBy w' row)(hr:∀b,row=some b->b < M):RunS w' M rv cv x q se:=⟨h.run.kept hg hr⟩
theorem RunS.tlw(h:RunS w M rv cv x q se)(j:Nat)(h1:411<=j)(h2:j < 1578):Wr w M j (tlV q j):=h.run.tlw j h1 _ (J95 q j h2)
theorem RunS.sc(h:RunS w M rv cv x q se):Wr w M 411 q.sc:=h.tlw 411 (by omega) (by omega)
theorem RunS.map(h:RunS w M rv cv x q se):Wr w M 412 (.map (some q.mb)):=h.tlw 412 (by omega) (by omega)
theorem RunS.puts(h:RunS w M rv cv x q se)(j:Nat)(hj:j < 384):Wr w M (413+j) (V (q.puts j)):=by have:=h.tlw (413+j) (by omega) (by omega);rw[Jbs q j hj]at this;exact this
theorem RunS.ahead(h:RunS w M rv cv x q se):Wr w M 797 (.bool q.ahead):=h.tlw 797 (by omega) (by omega)
theorem RunS.til(h:RunS w M rv cv x q se):Wr w M 1577 (V q.til):=h.tlw 1577 (by omega) (by omega)

theorem RunS.setTl(h:RunS w M rv cv x q se)(j:Nat)(v:Value)(hj:411<=j)(hj2:j < 1578)(hq:∀i,i < 1578->411<=i->tlV q' i=if i=j then v else tlV q i):RunS (w.setCell ⟨M,j,none⟩ v) M rv cv x q' se:=by
 refine⟨h.run.setTl j v (tlV q j) (tlF q') hj (J95 q j hj2) (fun i hi=>?_)⟩;show tlF q' i=if i=j then some v else tlF q i
 unfold tlF;by_cases e:i < 1578
 ·rw[if_pos e,if_pos e,hq i e hi]
  split<;>rfl
 ·rw[if_neg e,if_neg e,if_neg (by omega)]
theorem RunS.setSc(h:RunS w M rv cv x q se)(v:Value):RunS (w.setCell ⟨M,411,none⟩ v) M rv cv x { q with sc:=v } se:=
 h.setTl 411 v (by omega) (by omega) fun i hi h1=>by unfold tlV;by_cases e:i=411<;>simp[e]
theorem RunS.setAhead(h:RunS w M rv cv x q se)(b:Bool):RunS (w.setCell ⟨M,797,none⟩ (.bool b)) M rv cv x { q with ahead:=b } se:=
 h.setTl 797 _ (by omega) (by omega) fun i hi h1=>by unfold tlV;by_cases e:i=797<;>simp[e]
theorem RunS.setTil(h:RunS w M rv cv x q se)(n:Int):RunS (w.setCell ⟨M,1577,none⟩ (V n)) M rv cv x { q with til:=n } se:=
 h.setTl 1577 _ (by omega) (by omega) fun i hi h1=>by
  unfold tlV;by_cases e:i=1577
  ·simp[e]
  ·simp[e,show i < 1577 by omega]
theorem RunS.setPut(h:RunS w M rv cv x q se)(k:Nat)(hk:k < 384)(n:Int):RunS (w.setCell ⟨M,413+k,none⟩ (V n)) M rv cv x { q with puts:=setN q.puts k n } se:=
 h.setTl (413+k) _ (by omega) (by omega) fun i hi h1=>by
  by_cases e:i=413+k
  ·subst e;rw[if_pos rfl,Jbs _ k hk];simp[setN]
  ·rw[if_neg e]
   unfold tlV setN;by_cases e1:i < 413
   ·have:i=411\/i=412:=by omega
    rcases this with rfl | rfl<;>simp
   ·have e2:¬i - 413=k:=by omega
    simp[e2]

theorem RunS.splice(h:RunS w M rv cv x q se)(o:Nat)(vs:List Value)(h0:0 < vs.length)(hsz:o+vs.length<=1578)
  (h1:∀sv j,j < 411->(if o<=j/\j < o+vs.length then vs[j - o]? else some (cellF rv cv { x with sv:=sv } j))=some (cellF rv cv { x' with sv:=sv } j))
  (h2:∀j,411<=j->j < 1578->(if o<=j/\j < o+vs.length then vs[j - o]? else some (tlV q j))=some (tlV q' j)) (hmo:x'.mo=x.mo):RunS (w.setCells M o vs) M rv cv x' q' se:=by
 obtain⟨sv,hm,ho,hk⟩:=h.run.out;refine⟨⟨sv,hm.splice o vs rfl ?_ h0 (fun j hj=>h1 sv j hj) (fun j hj=>?_),ho.kept (J0t M vs o w) (fun b hb=>by have:=Option.some.inj hb;omega),fun p e=>?_⟩⟩
 ·right
  exact⟨_,J95 q _ (by omega)⟩
 ·show(if o<=j/\j < o+vs.length then vs[j - o]? else tlF q j)=tlF q' j
  by_cases e:j < 1578
  ·rw[J95 q j e,J95 q' j e];exact h2 j hj e
  ·unfold tlF
   rw[if_neg (by omega),if_neg e,if_neg e]
 ·have e2:p ∈ x.mo:=by rw[<-hmo];exact e
  have hp:=hk p e2;exact⟨hp.1,hp.2.1,by rw[(J0t M vs o w).block p.1 (J1a hp.2.2) (fun e'=>by have:=Option.some.inj e';have:=hp.1;omega)];exact hp.2.2⟩

theorem RunS.setState(h:RunS w M rv cv x q se)(r wd:Nat->Int)(n:Int):RunS (w.setCells M 7 (stL r wd n)) M rv cv { x with r:=r,wd:=wd,next:=n } q se:=by
 refine h.splice 7 _ (by rw[J0w];omega) (by rw[J0w];omega) (fun sv j hj=>?_) (fun j hj h1=>?_) rfl
 ·rw[J0w]
  by_cases e:7<=j/\j < 7+395
  ·rw[if_pos e,Jab _ _ _ _ (by omega)]
   by_cases e1:j < 17
   ·obtain⟨k,rfl⟩:∃k,j=7+k:=⟨j - 7,by omega⟩
    rw[if_pos (by omega),Jdr _ _ _ k (by omega),show 7+k - 7=k by omega]
   by_cases e2:j < 401
   ·obtain⟨k,rfl⟩:∃k,j=17+k:=⟨j - 17,by omega⟩
    rw[if_neg (by omega),if_pos (by omega),Jam _ _ _ k (by omega),show 17+k - 7 - 10=k by omega]
   obtain rfl:j=401:=by omega
   rfl
  ·rw[if_neg e]
   unfold cellF;by_cases e1:j < 7
   ·have:j=0\/j=1\/j=2\/j=3\/j=4\/j=5\/j=6:=by omega
    rcases this with rfl | rfl | rfl | rfl | rfl | rfl | rfl<;>simp
   ·simp[show¬j=0 by omega,show¬j=1 by omega,show¬j=2 by omega,show¬j=3 by omega,show¬j=4 by omega,show¬j=5 by omega,show¬j=6 by omega,show¬j < 17 by omega,show¬j < 401 by omega,show¬j=401 by omega]
 ·rw[J0w,if_neg (by omega)]

theorem RunS.setPuts(h:RunS w M rv cv x q se)(f:Nat->Int):RunS (w.setCells M 413 (puL f)) M rv cv x { q with puts:=f } se:=by
 refine h.splice 413 _ (by rw[J1i];omega) (by rw[J1i];omega) (fun sv j hj=>?_) (fun j hj h1=>?_) rfl
 ·rw[if_neg (by omega)]
 ·rw[J1i]
  by_cases e:413<=j/\j < 413+384
  ·obtain⟨k,rfl⟩:∃k,j=413+k:=⟨j - 413,by omega⟩
   rw[if_pos e,Jg5 _ _ (by omega),Jbs _ k (by omega),show 413+k - 413=k by omega]
  ·rw[if_neg e]
   unfold tlV;by_cases e1:j < 413
   ·have:j=411\/j=412:=by omega
    rcases this with rfl | rfl<;>simp
   ·simp[show¬j=411 by omega,show¬j=412 by omega,show¬j < 797 by omega]

theorem RunS.setBack(h:RunS w M rv cv x q se)(r wd:Nat->Int)(n:Int)(f:Nat->Int):RunS (w.setCells M 798 (stL r wd n++puL f)) M rv cv x { q with br:=r,bw:=wd,bn:=n,bp:=f } se:=by
 have hl:(stL r wd n++puL f).length=779:=by rw[List.length_append,J0w,J1i]
 refine h.splice 798 _ (by rw[hl];omega) (by rw[hl];omega) (fun sv j hj=>?_) (fun j hj h1=>?_) rfl
 ·rw[if_neg (by omega)]
 ·rw[hl]
  by_cases e:798<=j/\j < 798+779
  ·rw[if_pos e,List.getElem?_append,J0w]
   by_cases e1:j < 808
   ·obtain⟨k,rfl⟩:∃k,j=798+k:=⟨j - 798,by omega⟩
    rw[if_pos (by omega),Jab _ _ _ _ (by omega),if_pos (by omega),Jn7 _ k (by omega),show 798+k - 798=k by omega]
   by_cases e2:j < 1192
   ·obtain⟨k,rfl⟩:∃k,j=808+k:=⟨j - 808,by omega⟩
    rw[if_pos (by omega),Jab _ _ _ _ (by omega),if_neg (by omega),if_pos (by omega),Jn8 _ k (by omega),show 808+k - 798 - 10=k by omega]
   by_cases e3:j=1192
   ·subst e3
    rw[if_pos (by omega),Jab _ _ _ _ (by omega)]
    rfl
   ·obtain⟨k,rfl⟩:∃k,j=1193+k:=⟨j - 1193,by omega⟩
    rw[if_neg (by omega),Jg5 _ _ (by omega),Jn6 _ k (by omega),show 1193+k - 798 - 395=k by omega]
  ·rw[if_neg e]
   unfold tlV;by_cases e1:j < 798
   ·have:j=411\/j=412\/(¬j=411/\¬j=412/\j < 797)\/j=797:=by omega
    rcases this with rfl | rfl | h3 | rfl
    ·simp
    ·simp
    ·simp[h3]
    ·simp
   ·simp[show¬j=411 by omega,show¬j=412 by omega,show¬j < 797 by omega,show¬j=797 by omega,show¬j < 808 by omega,show¬j < 1192 by omega,show¬j=1192 by omega,show¬j < 1577 by omega]

theorem RunS.stateC(h:RunS w M rv cv x q se):∀j v,(stL x.r x.wd x.next)[j]?=some v->w.cell? ⟨M,7+j,none⟩=some v:=by
 intro j v hv;have hj:j < 395:=by have:=(List.getElem?_eq_some_iff.1 hv).1;rw[J0w]at this;exact this
 rw[Jab _ _ _ _ hj]at hv;rw[<-hv];by_cases e1:j < 10
 ·rw[if_pos e1];exact(h.run.r j e1).1
 rw[if_neg e1];by_cases e2:j < 394
 ·rw[if_pos e2]
  have:=(h.run.wd (j - 10) (by omega)).1;rw[show 17+(j - 10)=7+j by omega]at this;exact this
 rw[if_neg e2];obtain rfl:j=394:=by omega
 exact h.run.next.1
theorem RunS.putsC(h:RunS w M rv cv x q se):∀j v,(puL q.puts)[j]?=some v->w.cell? ⟨M,413+j,none⟩=some v:=by
 intro j v hv;have hj:j < 384:=by have:=(List.getElem?_eq_some_iff.1 hv).1;rw[J1i]at this;exact this
 rw[Jg5 _ _ hj]at hv;rw[<-hv];exact(h.puts j hj).1
theorem RunS.backS(h:RunS w M rv cv x q se):∀j v,(stL q.br q.bw q.bn)[j]?=some v->w.cell? ⟨M,798+j,none⟩=some v:=by
 intro j v hv;have hj:j < 395:=by have:=(List.getElem?_eq_some_iff.1 hv).1;rw[J0w]at this;exact this
 rw[Jab _ _ _ _ hj]at hv;rw[<-hv];have:=(h.tlw (798+j) (by omega) (by omega)).1;rw[this];by_cases e1:j < 10
 ·rw[if_pos e1,Jn7 q j e1]
 rw[if_neg e1];by_cases e2:j < 394
 ·rw[if_pos e2,show 798+j=808+(j - 10) by omega,Jn8 q _ (by omega)]
 rw[if_neg e2];obtain rfl:j=394:=by omega
 rfl
theorem RunS.backP(h:RunS w M rv cv x q se):∀j v,(puL q.bp)[j]?=some v->w.cell? ⟨M,1193+j,none⟩=some v:=by
 intro j v hv;have hj:j < 384:=by have:=(List.getElem?_eq_some_iff.1 hv).1;rw[J1i]at this;exact this
 rw[Jg5 _ _ hj]at hv;rw[<-hv];have:=(h.tlw (1193+j) (by omega) (by omega)).1;rw[this,Jn6 q j hj]
theorem RunS.any(h:RunS w M rv cv x q se)(j:Nat)(hj:j < 1578):∃v,Wr w M j v:=by
 by_cases e:j < 411
 ·obtain⟨sv,hm,_⟩:=h.run.out
  exact⟨_,hm.wr j e⟩
 ·exact⟨_,h.tlw j (by omega) hj⟩
end
theorem J48(w:World)(M B:Nat)(rv cv:Value)(x:Ms)(q:Tl)(se:List Se)(L:List Int)(h:RunS w M rv cv x q se)(hs:ScAt w B q.sc L)(hB:B<=M):
  Calls Tryz.prog 99 #[.pointer (some ⟨M,0,none⟩)] w fun e w'=>e=.returned (V (L.headD 0))/\Below M w w'/\∃sc',RunS w' M rv cv x { q with sc:=sc' } se/\ScAt w' B sc' L.tail:=by
 obtain⟨sa,cap,hsc,hcap,hl⟩:=hs.out;have hM:=h.lt;obtain⟨c411,f411⟩:=h.sc;rw[hsc]at c411;have H:Hid (RunS w M rv cv x q se/\ScAt w B q.sc L):=⟨h,hs⟩;cases L with
 | nil=>
  clear h hs hl;go_enter Tryz.func99,Tryz.ntmps99;go_wp2;go_ret;exact⟨rfl,Below.refl _ _,q.sc,H.out.1,H.out.2⟩
 | cons c L=>
  obtain⟨sb,so,rfl,hsb,hcell⟩:=hl (by simp);have c0:=hcell 0 c (by simp);rw[Nat.add_zero]at c0;have Hc:Hid (sb < B/\B<=M/\∀j c',(c::L)[j]?=some c'->w.cell? ⟨sb,so+j,none⟩=some (V c')):=⟨hsb,hB,hcell⟩;have hne:¬sb=M:=by omega
  have hn1:(1:Int)<=((c::L).length:Int):=by simp;omega
  have hn2:((c::L).length:Int)<=(cap:Int):=by omega
  obtain⟨n,hn⟩:∃n,(c::L).length=n:=⟨_,rfl⟩;have Hn:Hid ((c::L).length=n):=hn;rw[hn]at c411 hn1 hn2 hcap;have hn0:¬(n:Int)=0:=by omega
  have hn3:¬n=0:=by omega
  have hz:((n:Int)==0)=false:=by simp;omega
  have hcap1:1<=cap:=by omega
  clear h hs hl hcell hn hsc;by_cases e1:cap=1
  ·subst e1
   go_enter Tryz.func99,Tryz.ntmps99;go_wp2;go_ret;refine⟨rfl,J0f (Below.refl _ _) _ _,_,H.out.1.setSc _,?_⟩;have hL:L=[]:=by have:=Hn.out;simp at this;cases L with | nil=>rfl | cons a l=>simp at this;omega
   subst hL;exact⟨_,_,rfl,Nat.zero_le _,fun h=>absurd rfl h⟩
  ·go_enter Tryz.func99,Tryz.ntmps99
   go_wp2;go_ret;refine⟨rfl,J0f (Below.refl _ _) _ _,_,H.out.1.setSc _,?_⟩;have hL:n - 1=L.length:=by have:=Hn.out;simp at this;omega
   refine⟨some ⟨sb,so+1,none⟩,cap - 1,by rw[List.tail_cons,<-hL],by rw[List.tail_cons];omega,fun h=>⟨sb,so+1,rfl,Hc.out.1,fun j c' hc=>?_⟩⟩;rw[World.cell?_setCell_other _ _ _ _ (by simp<;>omega),show so+1+j=so+(j+1) by omega];exact Hc.out.2.2 (j+1) c' (by simpa using hc)

theorem J2v(w:World)(M:Nat)(ra:Option Addr)(rl rc:Nat)(cv:Value)(x:Ms)(se:List Se)(n:Int)(h:Run w M (.slice ra rl rc) cv x se)(hrl:rl<=6):
  Calls Tryz.prog 102 #[.pointer (some ⟨M,0,none⟩),V n] w fun e w'=>e=.returned (.bool (decide (0<=n)&&decide (n < x.st rl)))/\More w w':=by
 have c0:=h.p0.1;have cs:=(h.st rl (by omega)).1;have r0:(0:Int)<=(rl:Int):=by omega
 have r7:(rl:Int) < 7:=by omega
 clear h;by_cases h0:0<=n
 ·go_enter Tryz.func102,Tryz.ntmps102
  go_wp2
  go_region
  go_wp2;go_ret;exact⟨by simp[h0],(More.refl _).drew⟩
 ·have h0':decide (0<=n)=false:=by simp;omega
  go_enter Tryz.func102,Tryz.ntmps102;go_wp2
  go_region
  go_wp2;go_ret;exact⟨by simp[h0];intro h;omega,(More.refl _).drew⟩

theorem Jey(w:World)(M:Nat)(rv cv:Value)(x:Ms)(q:Tl)(se:List Se)(n c:Int)(h:RunS w M rv cv x q se)(n0:0<=n)(n1:n < 384)(hc:c=0\/q.puts n.toNat < c):
  Calls Tryz.prog 103 #[.pointer (some ⟨M,0,none⟩),V n,V c] w fun e w'=>e=.returned (.tuple #[V 0,.bool false])/\w'=w:=by
 have c0:=(h.puts n.toNat (by omega)).1;obtain⟨t,ht⟩:∃t,q.puts n.toNat=t:=⟨_,rfl⟩;rw[ht]at c0 hc;clear h ht;by_cases e:c=0
 ·subst e
  clear hc;go_enter Tryz.func103,Tryz.ntmps103;go_wp2;go_ret2;exact⟨rfl,rfl⟩
 ·have e':(c==0)=false:=by simp[e]
  have e2:t < c:=by omega
  clear hc;go_enter Tryz.func103,Tryz.ntmps103;go_wp2;go_ret2;exact⟨rfl,rfl⟩

theorem Jdb(w:World)(M:Nat)(rv cv:Value)(x:Ms)(q:Tl)(se:List Se)(f:Int->Int->Int)(n c:Int)(h:RunS w M rv cv x q se)(hm:MapAt w q.mb f)(n0:0<=n)(n1:n < 384)(c0:0 < c)(c1:c<=q.puts n.toNat)(hp:q.puts n.toNat<=100000):
  Calls Tryz.prog 103 #[.pointer (some ⟨M,0,none⟩),V n,V c] w fun e w'=>e=.returned (.tuple #[V (f n (q.puts n.toNat - c)),.bool true])/\w'=w:=by
 have cp:=(h.puts n.toNat (by omega)).1;have cm:=h.map.1;obtain⟨t,ht⟩:∃t,q.puts n.toNat=t:=⟨_,rfl⟩;rw[ht]at cp c1 hp |-;obtain⟨mb,hmb⟩:∃mb,q.mb=mb:=⟨_,rfl⟩;rw[hmb]at cm hm;have hw:wrap64 (t - c)=t - c:=by unfold wrap64;omega
 have hwr:=J17;have HM:Hid (MapAt w mb f/\B64 n/\B64 (t - c)):=⟨hm,by unfold B64;omega,by unfold B64;omega⟩;obtain⟨v,hv⟩:∃v,f n (t - c)=v:=⟨_,rfl⟩;rw[hv];have Hv:Hid (f n (t - c)=v):=hv;have e':(c==0)=false:=by simp;omega
 have e2:¬t < c:=by omega
 clear h hm ht hmb hv;go_enter Tryz.func103,Tryz.ntmps103;go_wp2_with (refine Jf6 rfl (.tmp 25) (.tmp 30) rfl mb f n (t - c) rfl rfl HM.out.1 HM.out.2.1 HM.out.2.2 ?_;rw[Hv.out])
 go_ret2;exact⟨rfl,rfl⟩
theorem Joy:(Tryz.prog.info? 96).map (·.size)=some 779:=by kernel_rfl
theorem Jin:(Tryz.prog.info? 81).map (·.size)=some 395:=by kernel_rfl
theorem Jio:(Tryz.prog.info? 94).map (·.size)=some 384:=by kernel_rfl
theorem Jok:(Tryz.prog.info? 96).map (fun i=>i.zero.map (fun z=>z.cells.size))=some (some 779):=by kernel_rfl
theorem Jlq:(J55 Tryz.prog 96).mapM (fun f=>(Tryz.prog.info? f.type).map fun i=>(f.offset,i.size))=some [(0,395),(395,384)]:=by kernel_rfl
theorem Jlr:(J55 Tryz.prog 98).mapM (fun f=>(Tryz.prog.info? f.type).map fun i=>(f.offset,i.size))=some [(0,411),(411,1),(412,1),(413,384),(797,1),(798,779),(1577,1)]:=by kernel_rfl

theorem Jnc(A B:Array Value)(hA:A.size=395)(hB:B.size=384):∃C,Tryz.prog.built 96 [(0,.agg A),(1,.agg B)]=some C/\C.size=779/\∀j,j < 779->C[j]?=if j < 395 then A[j]? else B[j - 395]?:=by
 have hz:=Jok;cases hi:Tryz.prog.info? 96 with
 | none=>rw[hi]at hz;simp at hz
 | some it=>
  rw[hi]at hz;simp only[Option.map_some,Option.some.injEq]at hz;cases hzz:it.zero with
  | none=>rw[hzz]at hz;simp at hz
  | some z=>
   rw[hzz]at hz;simp only[Option.map_some,Option.some.injEq]at hz;have hp:=Jlq;unfold J55 at hp;rw[Tryz.underlying96]at hp;rw[J4h hi Tryz.underlying96 hzz hp];obtain⟨c1,e1,s1,g1⟩:=J37 (fun x=>[(0,395),(395,384)].toArray[x]?) z.cells 0 (.agg A) [(1,.agg B)] 0 395 rfl hA (by omega);obtain⟨c2,e2,s2,g2⟩:=J37 (fun x=>[(0,395),(395,384)].toArray[x]?) c1 1 (.agg B) [] 395 384 rfl hB (by omega);refine⟨c2,by rw[e1,e2];rfl,by omega,fun j hj=>?_⟩;rw[g2 j,g1 j];by_cases e:j < 395
   ·rw[if_neg (by omega),if_pos (by omega),if_pos e];rfl
   ·rw[if_pos (by omega),if_neg e];rfl

def zTl(sc:Value)(mb:Nat):Tl:=⟨sc,mb,fun _=>0,false,fun _=>0,fun _=>0,0,fun _=>0,0⟩
def rowS(rv cv:Value)(x:Ms)(q:Tl):Array Value:=((List.range 1578).map fun j=>if j < 411 then cellF rv cv x j else tlV q j).toArray
theorem Jk1:(Tryz.prog.info? 98).map (fun i=>(i.zero,i.size))=some (some (.agg ((rowS (.slice none 0 0) (.slice none 0 0) (ms0 0) (zTl (.slice none 0 0) 0)).setIfInBounds 412 (.map none))),1578):=by kernel_rfl

theorem Jnd(c:Array Value)(rv cv:Value)(x:Ms)(hc:MC c rv cv x)(hx:x.tl 411=none)(sa:Option Addr)(n cap mb:Nat):
  ∃C,Tryz.prog.built 98 [(0,.agg c),(1,.slice sa n cap),(2,.map (some mb))]=some C/\C.size=1578/\MC C rv cv { x with T:=98,tl:=tlF (zTl (.slice sa n cap) mb)}:=by
 have hcs:=hc.size hx;cases hi:Tryz.prog.info? 98 with
 | none=>have:=Jk1;rw[hi]at this;simp at this
 | some it=>
  have h0:=Jk1;rw[hi]at h0;simp only[Option.map_some,Option.some.injEq,Prod.mk.injEq]at h0;have hp:=Jlr;unfold J55 at hp;rw[Tryz.underlying98]at hp;rw[J4h hi Tryz.underlying98 h0.1 hp];obtain⟨Z,hZ⟩:∃Z,Z=(rowS (.slice none 0 0) (.slice none 0 0) (ms0 0) (zTl (.slice none 0 0) 0)).setIfInBounds 412 (.map none):=⟨_,rfl⟩;have hZs:Z.size=1578:=by rw[hZ];simp[rowS]
  rw[<-hZ];obtain⟨c1,e1,s1,g1⟩:=J37 (fun x=>[(0,411),(411,1),(412,1),(413,384),(797,1),(798,779),(1577,1)].toArray[x]?) (Value.agg Z).cells 0 (.agg c) [(1,.slice sa n cap),(2,.map (some mb))] 0 411 rfl hcs (by show _<=Z.size;omega);obtain⟨c2,e2,s2,g2⟩:=J37 (fun x=>[(0,411),(411,1),(412,1),(413,384),(797,1),(798,779),(1577,1)].toArray[x]?) c1 1 (.slice sa n cap) [(2,.map (some mb))] 411 1 rfl rfl (by rw[s1];show _<=Z.size;omega);obtain⟨c3,e3,s3,g3⟩:=J37 (fun x=>[(0,411),(411,1),(412,1),(413,384),(797,1),(798,779),(1577,1)].toArray[x]?) c2 2 (.map (some mb)) [] 412 1 rfl rfl (by rw[s2,s1];show _<=Z.size;omega);have hsz:c3.size=1578:=by rw[s3,s2,s1];exact hZs
  refine⟨c3,by rw[e1,e2,e3];rfl,hsz,by omega,fun j hj=>?_,fun j hj=>?_⟩
  ·rw[g3 j,g2 j,g1 j,if_neg (by omega),if_neg (by omega),if_pos (by omega)]
   exact hc.at_ j hj
  ·show _=tlF (zTl (.slice sa n cap) mb) j
   by_cases e:j < 1578
   ·rw[J95 _ _ e,g3 j,g2 j,g1 j]
    by_cases e411:j=411
    ·subst e411;rfl
    by_cases e412:j=412
    ·subst e412;rfl
    rw[if_neg (by omega),if_neg (by omega),if_neg (by omega)];show Z[j]?=_;rw[hZ,Array.getElem?_setIfInBounds,if_neg (by omega)];unfold rowS;simp only[List.getElem?_toArray,List.getElem?_map,List.getElem?_range e,Option.map_some];rw[if_neg (by omega)];unfold tlV zTl;simp[e411,e412]
   ·rw[Array.getElem?_eq_none (by omega)]
    unfold tlF;rw[if_neg e]
theorem J5c(w:World)(M:Nat)(rv cv:Value)(x:Ms)(q:Tl)(se:List Se)(h:RunS w M rv cv x q se)(ha:q.ahead=true):
  Calls Tryz.prog 100 #[.pointer (some ⟨M,0,none⟩)] w fun e w'=>e=.returned (.tuple #[])/\w'=w:=by
 have c0:=h.ahead.1;rw[ha]at c0;clear h ha;go_enter Tryz.func100,Tryz.ntmps100;go_wp2;refine bodyPost_ret (results_none (by kernel_rfl) _ _ _) rfl ?_;exact⟨rfl,rfl⟩

theorem J8k{C:Array Value}{l:List Value}(hs:C.size=l.length)(h:∀j,j < l.length->C[j]?=l[j]?):C=l.toArray:=by
 apply Array.ext_getElem?;intro j;by_cases e:j < l.length
 ·rw[h j e];simp
 ·rw[Array.getElem?_eq_none (by omega)]
  simp
  omega
theorem Jk5(r wd:Nat->Int)(n:Int)(f:Nat->Int):Tryz.prog.built 96 [(0,.agg (stL r wd n).toArray),(1,.agg (puL f).toArray)]=some (stL r wd n++puL f).toArray:=by
 obtain⟨C,h1,h2,h3⟩:=Jnc (stL r wd n).toArray (puL f).toArray (by simp[J0w]) (by simp[J1i]);rw[h1,J8k (C:=C) (l:=stL r wd n++puL f) (by rw[h2,List.length_append,J0w,J1i]) (fun j hj=>?_)];rw[List.length_append,J0w,J1i]at hj;rw[h3 j hj,List.getElem?_append,J0w]
 simp

theorem Jd7(w:World)(M:Nat)(rv cv:Value)(x:Ms)(q:Tl)(se:List Se)(h:RunS w M rv cv x q se)(ha:q.ahead=false)(s0:0<=x.steps)(s1:x.steps<=100000):
  Calls Tryz.prog 100 #[.pointer (some ⟨M,0,none⟩)] w fun e w'=>e=.returned (.tuple #[])/\RunS w' M rv cv x { q with ahead:=true,br:=x.r,bw:=x.wd,bn:=x.next,bp:=q.puts,til:=x.steps+12 } se/\Below M w w':=by
 obtain⟨c0,f0⟩:=h.ahead;rw[ha]at c0;have h1:=h.setAhead true;have hw:wrap64 (x.steps+12)=x.steps+12:=by unfold wrap64;omega
 have hwr:=J17;obtain⟨A,hA⟩:∃A,A=stL x.r x.wd x.next:=⟨_,rfl⟩;obtain⟨B,hB⟩:∃B,B=puL q.puts:=⟨_,rfl⟩;have hAc:=h1.stateC;have hBc:=h1.putsC;dsimp only at hBc;rw[<-hA]at hAc;rw[<-hB]at hBc;have hbu:=Jk5 x.r x.wd x.next q.puts;rw[<-hA,<-hB]at hbu;have hAl:A.length=395:=by rw[hA,J0w]
 have hBl:B.length=384:=by rw[hB,J1i]
 have hone:∀v ∈ A++B,v.oneCell'=true:=by
  intro v hv;rw[hA,hB]at hv;rcases List.mem_append.1 hv with h2 | h2
  ·exact Jjo _ _ _ v h2
  ·exact Jjf _ v h2
 have h2:=(h1.drew).setBack x.r x.wd x.next q.puts;rw[<-hA,<-hB]at h2;obtain⟨w1,hw1⟩:∃w1,w1=w.setCell ⟨M,797,none⟩ (.bool true):=⟨_,rfl⟩;rw[<-hw1]at h1 h2 hAc hBc;obtain⟨w2,hw2⟩:∃w2,w2=w1.drew.setCells M 798 (A++B):=⟨_,rfl⟩;rw[<-hw2]at h2;have c4:=h2.run.steps.1;dsimp only at c4;obtain⟨ct,ft⟩:=h2.til;dsimp only at ct;obtain⟨ti,hti⟩:∃ti,q.til=ti:=⟨_,rfl⟩;obtain⟨st,hst⟩:∃st,x.steps=st:=⟨_,rfl⟩;rw[hti]at ct;rw[hst]at c4 hw;have Hst:Hid (x.steps=st):=hst;have H:Hid (RunS w M rv cv x q se/\(∀j v,A[j]?=some v->w1.cell? ⟨M,7+j,none⟩=some v)/\(∀j v,B[j]?=some v->w1.cell? ⟨M,413+j,none⟩=some v)/\A.length=395/\B.length=384/\(∀v ∈ A++B,v.oneCell'=true)/\RunS w1 M rv cv x { q with ahead:=true } se):=⟨h,hAc,hBc,hAl,hBl,hone,h1⟩;have H2:=J01 h2;have HW1:Hid (w1=w.setCell ⟨M,797,none⟩ (.bool true)):=hw1;have HW2:Hid (w2=w1.drew.setCells M 798 (A++B)):=hw2;have HB:Hid (Tryz.prog.built 96 [(0,.agg A.toArray),(1,.agg B.toArray)]=some (A++B).toArray):=hbu;obtain⟨S,HS⟩:∃S:World->Prop,Hid (∀w',S w'↔((∀j v,A[j]?=some v->w'.cell? ⟨M,7+j,none⟩=some v)/\(∀j v,B[j]?=some v->w'.cell? ⟨M,413+j,none⟩=some v))):=⟨_,fun _=>Iff.rfl⟩
 clear h h1 h2 hAc hBc hbu hA hB hone hw1 hw2 ha hti hst hAl hBl s0 s1;obtain⟨P,hP⟩:∃P,P=fun(e:Ending) (w':World)=>e=.returned (.tuple #[])/\RunS w' M rv cv x { q with ahead:=true,br:=x.r,bw:=x.wd,bn:=x.next,bp:=q.puts,til:=x.steps+12 } se/\Below M w w':=⟨_,rfl⟩
 rw[<-hP];have HP:Hid (P=fun(e:Ending) (w':World)=>e=.returned (.tuple #[])/\RunS w' M rv cv x { q with ahead:=true,br:=x.r,bw:=x.wd,bn:=x.next,bp:=q.puts,til:=x.steps+12 } se/\Below M w w'):=hP;clear hP;go_enter Tryz.func100,Tryz.ntmps100;go_wp2_with (fail)
 rw[<-HW1.out];refine J04 (S:=S) [(0,true),(1,true),(2,true),(3,true),(4,true),(5,true),(6,true),(7,true),(8,true),(9,true),(10,true),(11,true),(12,true),(13,false)] (by kernel_rfl) (by kernel_rfl) (by kernel_rfl) ((HS.out _).2 ⟨H.out.2.1,H.out.2.2.1⟩) ?_;have hne:Nonempty { w' // S w' }:=⟨⟨w1,(HS.out _).2 ⟨H.out.2.1,H.out.2.2.1⟩⟩⟩
 iterate 5 (refine J00 rfl (by kernel_rfl) (fun K hK=>?_);go_simp;refine hK _ _ ?_;clear hK K)
 refine J00 rfl (by kernel_rfl) (fun K hK=>⟨.agg A.toArray,fun i=>J2d 81 (.tmp 13) rfl M 7 rfl A _ ((HS.out _).1 i.property).1 Tryz.underlying81 rfl (by rw[H.out.2.2.2.1];exact Jin),?_⟩);refine hK _ _ ?_;clear hK K
 go_simp
 iterate 3 (refine J00 rfl (by kernel_rfl) (fun K hK=>?_);go_simp;refine hK _ _ ?_;clear hK K)
 refine J00 rfl (by kernel_rfl) (fun K hK=>⟨.agg B.toArray,fun i=>J2d 94 (.tmp 17) rfl M 413 rfl B _ ((HS.out _).1 i.property).2 Tryz.underlying94 rfl (by rw[H.out.2.2.2.2.1];exact Jio),?_⟩);refine hK _ _ ?_;clear hK K
 go_simp
 refine J00 rfl (by kernel_rfl) (fun K hK=>⟨.agg (A++B).toArray,fun i=>Jgl 96 #[(0,.tmp 14),(1,.tmp 18)] rfl _ (by simp[Act.eval];exact HB.out),?_⟩);refine hK _ _ ?_;clear hK K
 go_simp
 iterate 2 (refine J00 rfl (by kernel_rfl) (fun K hK=>?_);go_simp;refine hK _ _ ?_;clear hK K)
 refine J03 rfl (by kernel_rfl) (fun K hK=>?_);refine J3p 96 (.tmp 21) (.tmp 19) rfl M 798 (A++B).toArray rfl rfl (by rw[show(A++B).toArray.size=779 by simp[H.out.2.2.2.1,H.out.2.2.2.2.1]];exact Joy) (fun j hj=>H.out.2.2.2.2.2.2.drew.any (798+j) (by simp[H.out.2.2.2.1,H.out.2.2.2.2.1]at hj;omega)) (by simpa using H.out.2.2.2.2.2.1) ?_;have e2:(A++B).toArray.toList=A++B:=by simp
 rw[e2,<-HW2.out];clear e2;refine hK _ _ ((HS.out _).2 ⟨fun j v hv=>?_,fun j v hv=>?_⟩) ?_
 ·rw[HW2.out,World.cell?_setCells_out _ _ _ _ _ (fun _ _=>.inl (by have:=(List.getElem?_eq_some_iff.1 hv).1;have:=H.out.2.2.2.1;dsimp only;omega))]
  exact H.out.2.1 j v hv
 ·rw[HW2.out,World.cell?_setCells_out _ _ _ _ _ (fun _ _=>.inl (by have:=(List.getElem?_eq_some_iff.1 hv).1;have:=H.out.2.2.2.2.1;dsimp only;omega))]
  exact H.out.2.2.1 j v hv
 clear hK K;refine J06 ?_;clear hne
 go_simp
 go_wp2;go_end0;rw[HP.out,Hst.out];refine⟨rfl,H2.out.setTil _,?_⟩;rw[HW2.out,HW1.out];exact J0f (Below.grown (J0a (J0f (Below.refl _ _) _ _)) (J0t M _ _ _) (by have:=H.out.1.lt;simp;omega) (fun b hb=>by have:=Option.some.inj hb;omega)) _ _

theorem J6l(w:World)(M:Nat)(rv cv:Value)(x:Ms)(q:Tl)(se:List Se)(h:RunS w M rv cv x q se):
  Calls Tryz.prog 73 #[.pointer (some ⟨M,0,none⟩)] w fun e w'=>e=.returned (.tuple #[])/\RunS w' M rv cv { x with r:=q.br,wd:=q.bw,next:=q.bn } { q with puts:=q.bp,ahead:=false } se/\Below M w w':=by
 obtain⟨A,hA⟩:∃A,A=stL q.br q.bw q.bn:=⟨_,rfl⟩;obtain⟨B,hB⟩:∃B,B=puL q.bp:=⟨_,rfl⟩;have hAc:=h.backS;have hBc:=h.backP;rw[<-hA]at hAc;rw[<-hB]at hBc;have hAl:A.length=395:=by rw[hA,J0w]
 have hBl:B.length=384:=by rw[hB,J1i]
 have hone:(∀v ∈ A,v.oneCell'=true)/\(∀v ∈ B,v.oneCell'=true):=by rw[hA,hB];exact⟨Jjo _ _ _,Jjf _⟩
 have h1:=h.drew.setState q.br q.bw q.bn;have h2:=h1.setPuts q.bp;rw[<-hA]at h1 h2;rw[<-hB]at h2;obtain⟨w1,hw1⟩:∃w1,w1=w.drew.setCells M 7 A:=⟨_,rfl⟩;rw[<-hw1]at h1 h2;obtain⟨w2,hw2⟩:∃w2,w2=w1.setCells M 413 B:=⟨_,rfl⟩;rw[<-hw2]at h2;obtain⟨c0,f0⟩:=h2.ahead;dsimp only at c0;obtain⟨b,hb⟩:∃b,q.ahead=b:=⟨_,rfl⟩;rw[hb]at c0;have H:Hid (RunS w M rv cv x q se/\(∀j v,A[j]?=some v->w.cell? ⟨M,798+j,none⟩=some v)/\(∀j v,B[j]?=some v->w.cell? ⟨M,1193+j,none⟩=some v)/\A.length=395/\B.length=384/\((∀v ∈ A,v.oneCell'=true)/\(∀v ∈ B,v.oneCell'=true))/\RunS w1 M rv cv { x with r:=q.br,wd:=q.bw,next:=q.bn } q se):=⟨h,hAc,hBc,hAl,hBl,hone,h1⟩;have H2:=J01 h2;have HW1:Hid (w1=w.drew.setCells M 7 A):=hw1;have HW2:Hid (w2=w1.setCells M 413 B):=hw2;obtain⟨S,HS⟩:∃S:World->Prop,Hid (∀w',S w'↔((∀j v,A[j]?=some v->w'.cell? ⟨M,798+j,none⟩=some v)/\(∀j v,B[j]?=some v->w'.cell? ⟨M,1193+j,none⟩=some v))):=⟨_,fun _=>Iff.rfl⟩;have hS0:S w.drew:=(HS.out _).2 ⟨hAc,hBc⟩
 have hS1:S w1:=by
  refine(HS.out _).2 ⟨fun j v hv=>?_,fun j v hv=>?_⟩
  ·rw[hw1,World.cell?_setCells_out _ _ _ _ _ (fun _ _=>.inr (by dsimp only;omega))]
   exact hAc j v hv
  ·rw[hw1,World.cell?_setCells_out _ _ _ _ _ (fun _ _=>.inr (by dsimp only;omega))]
   exact hBc j v hv
 have hS2:S w2:=by
  refine(HS.out _).2 ⟨fun j v hv=>?_,fun j v hv=>?_⟩
  ·rw[hw2,World.cell?_setCells_out _ _ _ _ _ (fun _ _=>.inr (by dsimp only;omega))]
   exact((HS.out _).1 hS1).1 j v hv
  ·rw[hw2,World.cell?_setCells_out _ _ _ _ _ (fun _ _=>.inr (by dsimp only;omega))]
   exact((HS.out _).1 hS1).2 j v hv
 have HSS:Hid (S w.drew/\S w1/\S w2):=⟨hS0,hS1,hS2⟩;clear h h1 h2 hAc hBc hA hB hone hw1 hw2 hb hAl hBl hS0 hS1 hS2;obtain⟨P,hP⟩:∃P,P=fun(e:Ending) (w':World)=>e=.returned (.tuple #[])/\RunS w' M rv cv { x with r:=q.br,wd:=q.bw,next:=q.bn } { q with puts:=q.bp,ahead:=false } se/\Below M w w':=⟨_,rfl⟩
 rw[<-hP];have HP:Hid (P=fun(e:Ending) (w':World)=>e=.returned (.tuple #[])/\RunS w' M rv cv { x with r:=q.br,wd:=q.bw,next:=q.bn } { q with puts:=q.bp,ahead:=false } se/\Below M w w'):=hP;clear hP;go_enter Tryz.func73,Tryz.ntmps73;go_wp2_with (fail)
 refine J04 (S:=S) [(0,true),(1,true),(2,true),(3,true),(4,true),(5,true),(6,true),(7,true),(8,true),(9,true),(10,true),(11,true),(12,true),(13,true),(14,true),(15,false),(16,true),(17,true),(18,false)] (by kernel_rfl) (by kernel_rfl) (by kernel_rfl) HSS.out.1 ?_;have hne:Nonempty { w' // S w' }:=⟨⟨w1,HSS.out.2.1⟩⟩
 iterate 6 (refine J00 rfl (by kernel_rfl) (fun K hK=>?_);go_simp;refine hK _ _ ?_;clear hK K)
 refine J00 rfl (by kernel_rfl) (fun K hK=>⟨.agg A.toArray,fun i=>J2d 81 (.tmp 7) rfl M 798 rfl A _ ((HS.out _).1 i.property).1 Tryz.underlying81 rfl (by rw[H.out.2.2.2.1];exact Jin),?_⟩);refine hK _ _ ?_;clear hK K
 go_simp
 iterate 4 (refine J00 rfl (by kernel_rfl) (fun K hK=>?_);go_simp;refine hK _ _ ?_;clear hK K)
 refine J00 rfl (by kernel_rfl) (fun K hK=>⟨.agg B.toArray,fun i=>J2d 94 (.tmp 12) rfl M 1193 rfl B _ ((HS.out _).1 i.property).2 Tryz.underlying94 rfl (by rw[H.out.2.2.2.2.1];exact Jio),?_⟩);refine hK _ _ ?_;clear hK K
 go_simp
 iterate 3 (refine J00 rfl (by kernel_rfl) (fun K hK=>?_);go_simp;refine hK _ _ ?_;clear hK K)
 refine J03 rfl (by kernel_rfl) (fun K hK=>?_);refine J3p 81 (.tmp 16) (.tmp 8) rfl M 7 A.toArray rfl rfl (by rw[show A.toArray.size=395 by simp[H.out.2.2.2.1]];exact Jin) (fun j hj=>H.out.1.drew.any (7+j) (by simp[H.out.2.2.2.1]at hj;omega)) (by simpa using H.out.2.2.2.2.2.1.1) ?_;have e2:A.toArray.toList=A:=by simp
 rw[e2,<-HW1.out];clear e2;refine hK _ _ HSS.out.2.1 ?_;clear hK K
 go_simp
 iterate 2 (refine J00 rfl (by kernel_rfl) (fun K hK=>?_);go_simp;refine hK _ _ ?_;clear hK K)
 refine J03 rfl (by kernel_rfl) (fun K hK=>?_);refine J3p 94 (.tmp 18) (.tmp 13) rfl M 413 B.toArray rfl rfl (by rw[show B.toArray.size=384 by simp[H.out.2.2.2.2.1]];exact Jio) (fun j hj=>H.out.2.2.2.2.2.2.any (413+j) (by simp[H.out.2.2.2.2.1]at hj;omega)) (by simpa using H.out.2.2.2.2.2.1.2) ?_;have e2:B.toArray.toList=B:=by simp
 rw[e2,<-HW2.out];clear e2;refine hK _ _ HSS.out.2.2 ?_;clear hK K;refine J06 ?_;clear hne
 go_simp
 go_wp2;go_end0;rw[HP.out];refine⟨rfl,H2.out.setAhead _,?_⟩;rw[HW2.out,HW1.out];have hM:=H.out.1.lt;exact J0f (Below.grown (Below.grown (J0a (Below.refl _ _)) (J0t M _ _ _) (by simp;omega) (fun b hb=>by have:=Option.some.inj hb;omega)) (J0t M _ _ _) (by have:=(J0t M A 7 w.drew).size;simp at this;omega) (fun b hb=>by have:=Option.some.inj hb;omega)) _ _

theorem J1c(w:World)(M:Nat)(rv cv:Value)(x:Ms)(q:Tl)(se:List Se)(hl:se.length<=200000)(h:RunS w M rv cv x q se):
  Calls Tryz.prog 67 #[.pointer (some ⟨M,0,none⟩)] w fun e w'=>e=.returned (.tuple #[])/\RunS w' M rv cv { x with r:=q.br,wd:=q.bw,next:=q.bn } { q with puts:=q.bp,ahead:=false } (se++[⟨4,0,0⟩])/\Below M w w':=by
 have H:Hid (RunS w M rv cv x q se/\se.length<=200000):=⟨h,hl⟩;clear h hl;go_enter Tryz.func67,Tryz.ntmps67;go_wp2_with (fail)
 refine(J46 _ M rv cv _ se 4 0 0 H.out.2 H.out.1.run).mono ?_;rintro e w2 ⟨rfl,r2,b2,_⟩;have H2:Hid (RunS w2 M rv cv x q (se++[⟨4,0,0⟩])/\Below M w w2):=⟨⟨r2⟩,b2⟩;clear r2 b2;go_wp2_with (fail)
 refine(J6l w2 M rv cv x q _ H2.out.1).mono ?_;rintro e w3 ⟨rfl,r3,b3⟩;have H3:=J01 (And.intro r3 (Below.trans H2.out.2 b3));clear r3 b3;go_wp2;go_end0;exact⟨rfl,H3.out.1,H3.out.2⟩
end
end Go.Proofs.YtephohhigbfafaaGreatDoor
