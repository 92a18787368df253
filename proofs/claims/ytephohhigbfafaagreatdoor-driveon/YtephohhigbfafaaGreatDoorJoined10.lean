/-
  The texts Run, SRun, SRunOk, FdRun, DvRuns, WdPut, WdGet, LdLay, LdFitting, WdBack, LdTight, LdDoes, LdLike, WdWord, WdPutD, LdMake, one behind the other, with what is used of them.
-/
import Derived.Test.YtephohhigbfafaaGreatDoorJoined9
import Derived.Test.YtephohhigbfafaaGreatDoorJoined7
import Derived.Test.YtephohhigbfafaaGreatDoorJoined5
import Derived.Test.YtephohhigbfafaaGreatDoorJoined0
import Derived.Deep.LoopGhost
import Derived.Deep.OwnRows
import Derived.Laws.BitsAllLaws
namespace Go.Proofs.YtephohhigbfafaaGreatDoor
set_option maxHeartbeats 4000000
section
open Go.RowKit
set_option linter.unusedSimpArgs false
set_option linter.unusedVariables false
set_option maxRecDepth 8000
theorem J15{P:Prop}(h:P):Hid P:=h

theorem Jks{m:Mem}{R:Sh}{x:Ms}{se:List Se}(h:Fin_ m R x se):Mem.Like ⟨m.ml,fun j=>baseN m.len (j+1) - baseN m.len j,fun j i=>x.wd (baseN m.len j+i)⟩ R.mem:=by
 have hl:∀j,baseN m.len (j+1) - baseN m.len j=m.len j:=fun j=>by simp only[baseN];omega
 refine⟨h.ml.symm,fun i hi=>?_,fun i hi j hj=>?_⟩
 ·dsimp only;rw[hl,h.len]
 ·dsimp only at hj |-
  rw[hl]at hj;exact h.w.wd i hi j hj

theorem J6j(p:Prg)(l:Loc)(ma:Option Addr)(ml mc:Nat)(fuel code:Int)(w:World)(hc:¬code=0)
  (hnew:∀w1,More w w1->Calls Tryz.prog 24 #[.agg #[.slice l.ra p.rl l.rc,.slice l.ca p.cl l.cc],.slice ma ml mc,.int .i64 fuel] w1 fun e w'=>∃z,MC z (.slice none 0 0) (.slice none 0 0) (ms0 0)/\e=.returned (.tuple #[.agg z,.int .i64 code])/\More w1 w'):
  Calls Tryz.prog 11 #[.agg #[.slice l.ra p.rl l.rc,.slice l.ca p.cl l.cc],.slice ma ml mc,.int .i64 fuel] w fun e w'=>e=.returned (.tuple #[.agg #[.int .i64 0,.int .i64 0,.int .i64 0,.slice none 0 0,.slice none 0 0],.int .i64 code])/\More w w':=by
 obtain⟨z,z1,z2,z3,z4⟩:=zrow;have HN:Hid (∀w1,More w w1->Calls Tryz.prog 24 #[.agg #[.slice l.ra p.rl l.rc,.slice l.ca p.cl l.cc],.slice ma ml mc,.int .i64 fuel] w1 fun e w'=>∃z,MC z (.slice none 0 0) (.slice none 0 0) (ms0 0)/\e=.returned (.tuple #[.agg z,.int .i64 code])/\More w1 w'):=hnew;have Hz:Hid (MC z (.slice none 0 0) (.slice none 0 0) (ms0 0)/\(Tryz.prog.info? 84).map (·.size)=some 411/\z.size=411):=⟨z3,z4,z3.size rfl⟩;clear hnew z3 z4;go_enter Tryz.func11,Tryz.ntmps11;go_wp2_with (fail)
 refine(HN.out _ (((More.refl _).alloc _ _).alloc _ _)).mono ?_;rintro e w1 ⟨c,mcc,rfl,m1⟩;have Hc:Hid (MC c (.slice none 0 0) (.slice none 0 0) (ms0 0)):=mcc;have s1:w.heap.size+2<=w1.heap.size:=by have:=m1.size;have:=size_alloc2 w (.cells #[.slice l.ra p.rl l.rc,.slice l.ca p.cl l.cc] 28) (.cells #[.int .i64 0,.int .i64 0,.int .i64 0,.slice none 0 0,.slice none 0 0] 44);omega
 have Hm1:Hid (More w w1):=(((More.refl _).alloc _ _).alloc _ _).trans m1;obtain⟨w3,hw3⟩:∃w3,w3=w1.alloc (.cells c 84):=⟨_,rfl⟩;have Hw3:Hid (w3=w1.alloc (.cells c 84)):=hw3;have zz:∀j v,Wr ((w.alloc (.cells #[.slice l.ra p.rl l.rc,.slice l.ca p.cl l.cc] 28)).alloc (.cells #[.int .i64 0,.int .i64 0,.int .i64 0,.slice none 0 0,.slice none 0 0] 44)) (w.heap.size+1) j v->Wr w3 (w.heap.size+1) j v:=fun j v hv=>by rw[hw3];exact(hv.kept (m1.grow none) (by simp)).kept (World.grownBy_alloc w1 _ none) (by simp)
 obtain⟨y0,g0⟩:=zz 0 (.int .i64 0) ⟨by go_simp,by go_simp⟩;obtain⟨y1,g1⟩:=zz 1 (.int .i64 0) ⟨by go_simp,by go_simp⟩;obtain⟨y2,g2⟩:=zz 2 (.int .i64 0) ⟨by go_simp,by go_simp⟩;obtain⟨y3,g3⟩:=zz 3 (.slice none 0 0) ⟨by go_simp,by go_simp⟩;obtain⟨y4,g4⟩:=zz 4 (.slice none 0 0) ⟨by go_simp,by go_simp⟩;have n1:¬w1.heap.size=w.heap.size+1:=by omega
 have n2:¬w.heap.size+1=w1.heap.size:=by omega
 clear m1 mcc zz hw3;go_wp2_with (refine wpList_store_row rfl 84 (.tmp 8) (.tmp 15) rfl w1.heap.size c rfl rfl 84 z (heap_alloc_last _ _) (by rw[Hc.out.size rfl];exact Hz.out.2.1) (by rw[Hc.out.size rfl,Hz.out.2.2]) (Hc.out.one rfl rfl rfl rfl rfl) ?_;rw[World.setRow_alloc_new,<-Hw3.out])
 refine bodyPost_ret (v:=.tuple #[.agg #[.int .i64 0,.int .i64 0,.int .i64 0,.slice none 0 0,.slice none 0 0],.int .i64 code]) (by simp[results,Tryz.results11,go_sem, *]) rfl ⟨rfl,?_⟩;have hg:w3.grownBy (((((w3.setCell ⟨w.heap.size+1,0,none⟩ (.int .i64 0)).setCell ⟨w.heap.size+1,1,none⟩ (.int .i64 0)).setCell ⟨w.heap.size+1,2,none⟩ (.int .i64 0)).setCell ⟨w.heap.size+1,3,none⟩ (.slice none 0 0)).setCell ⟨w.heap.size+1,4,none⟩ (.slice none 0 0)) (some (w.heap.size+1)):=J0s (J0s (J0s (J0s (J0s (J0u _ _) _ _) _ _) _ _) _ _) _ _;have h3:More w w3:=by rw[Hw3.out];exact Hm1.out.alloc _ _
 exact h3.grownBy hg (fun b hb=>by have:=Option.some.inj hb;omega)

theorem Jhn(p:Prg)(l:Loc)(m:Mem)(ml:MLoc)(fuel:Nat)(w:World)(hp:PIn w p l)(hm:MIn w m ml)(hok:p.Ok 8000 10)(hn64:∀i,i < p.cl->B64 (p.ins i).n)(hfit:J2r p.rl p.log m.ml m.len)(hwd:∀j,j < m.ml->∀i,i < m.len j->B64 (m.wd j i))(hfuel:fuel<=40000):
  Calls Tryz.prog 11 #[.agg #[.slice l.ra p.rl l.rc,.slice l.ca p.cl l.cc],.slice ml.ma m.ml ml.mc,.int .i64 fuel] w fun e w'=>∃(v:Value) (mm:Mem),e=.returned (.tuple #[v,.int .i64 0])/\J3j w' v ⟨(playI p m fuel).fin,(playI p m fuel).val,(playI p m fuel).steps,(playI p m fuel).seen,mm⟩/\mm.Like (playI p m fuel).mem/\More w w':=by
 have hml:m.ml=p.rl:=hfit.2.1;have hlen:∀i,i < m.ml->(m.len i:Int)=J0h (p.log i):=fun i hi=>hfit.2.2 i (by omega)
 have hpos:∀i,i < m.ml->0 < m.len i/\m.len i<=64:=fun i hi=>by
  have h1:=hlen i hi;have h2:=hok.1.2 i (by omega);have h3:=J2p (k:=(p.log i).toNat) (by omega);unfold J0h at h1;omega
 have hm6:m.ml<=6:=by rw[hml];exact hok.1.1
 have hcl:1<=p.cl/\p.cl<=8000:=⟨hok.2.1,hok.2.2.1⟩;have hinv:Inv p m 0 ⟨0,fun _=>0,m,[]⟩:=⟨Nat.zero_le _,fun _ _=>J1g,rfl,fun _=>rfl,hwd,by simp⟩;obtain⟨z,z1,z2,z3,z4⟩:=zrow;have Hz:Hid (MC z (.slice none 0 0) (.slice none 0 0) (ms0 0)/\(Tryz.prog.info? 84).map (·.size)=some 411/\z.size=411):=⟨z3,z4,z3.size rfl⟩;obtain⟨ra,rb,ro,rc,ca,cb,co,cc⟩:=l;obtain rfl:ca=some ⟨cb,co,none⟩:=hp.hc (by omega);dsimp only
 have H:Hid (PIn w p ⟨ra,rb,ro,rc,some ⟨cb,co,none⟩,cb,co,cc⟩/\(∀i,i < p.cl->InsOk p.rl p.log p.cl 10 (p.ins i))/\(∀i,i < p.cl->B64 (p.ins i).n)/\m.ml=p.rl/\(∀i,i < m.ml->(m.len i:Int)=J0h (p.log i))/\(∀i,i < m.ml->0 < m.len i/\m.len i<=64)/\m.ml<=6/\(1<=p.cl/\p.cl<=8000)/\fuel<=40000/\Inv p m 0 ⟨0,fun _=>0,m,[]⟩):=
  ⟨hp,hok.2.2.2,hn64,hml,hlen,hpos,hm6,hcl,hfuel,hinv⟩
 have HN:Hid (∀w1,More w w1->Calls Tryz.prog 24 #[.agg #[.slice ra p.rl rc,.slice (some ⟨cb,co,none⟩) p.cl cc],.slice ml.ma m.ml ml.mc,.int .i64 fuel] w1 fun e w'=>∃(c:Array Value) (W S:Nat->Int),e=.returned (.tuple #[.agg c,.int .i64 0])/\MC c (.slice ra p.rl rc) (.slice (some ⟨cb,co,none⟩) p.cl cc) { ms0 fuel with wd:=W,st:=S }/\
   (∀j,j<=m.ml->S j=(baseN m.len j:Int))/\(∀j,j < m.ml->∀i,i < m.len j->W (baseN m.len j+i)=m.wd j i)/\More w1 w'):=
  fun w1 m1=>Jen p ⟨ra,rb,ro,rc,some ⟨cb,co,none⟩,cb,co,cc⟩ m ml fuel w1 (hp.more m1) (hm.more m1) hok hfit hpos (by omega) (by omega)
 obtain⟨R,HR⟩:∃R,Hid (playI p m fuel=R):=⟨_,rfl⟩;rw[HR.out];obtain⟨P,hP⟩:∃P,P=fun(e:Ending) (w':World)=>∃(v:Value) (mm:Mem),e=.returned (.tuple #[v,.int .i64 0])/\J3j w' v ⟨R.fin,R.val,R.steps,R.seen,mm⟩/\mm.Like R.mem/\More w w':=⟨_,rfl⟩
 rw[<-hP];have HP:Hid (P=fun(e:Ending) (w':World)=>∃(v:Value) (mm:Mem),e=.returned (.tuple #[v,.int .i64 0])/\J3j w' v ⟨R.fin,R.val,R.steps,R.seen,mm⟩/\mm.Like R.mem/\More w w'):=hP;obtain⟨va,hva⟩:∃va,ml.ma=va:=⟨_,rfl⟩;obtain⟨vc,hvc⟩:∃vc,ml.mc=vc:=⟨_,rfl⟩;rw[hva,hvc]at HN |-;clear hp hm hok hn64 hfit hwd hfuel hml hlen hpos hm6 hcl hinv z3 z4 hP hva hvc;go_enter Tryz.func11,Tryz.ntmps11;go_wp2_with (fail)
 refine(HN.out _ (((More.refl _).alloc _ _).alloc _ _)).mono ?_;rintro e w1 ⟨c,W,S,rfl,mcc,hS,hW,m1⟩;obtain⟨w3,hw3⟩:∃w3,w3=w1.alloc (.cells c 84):=⟨_,rfl⟩;have Hw3:Hid (w3=w1.alloc (.cells c 84)):=hw3;have Hc:Hid (MC c (.slice ra p.rl rc) (.slice (some ⟨cb,co,none⟩) p.cl cc) { ms0 fuel with wd:=W,st:=S }/\(∀j,j<=m.ml->S j=(baseN m.len j:Int))/\(∀j,j < m.ml->∀i,i < m.len j->W (baseN m.len j+i)=m.wd j i)):=⟨mcc,hS,hW⟩;have s1:w.heap.size+2<=w1.heap.size:=by have:=m1.size;have:=size_alloc2 w (.cells #[.slice ra p.rl rc,.slice (some ⟨cb,co,none⟩) p.cl cc] 28) (.cells #[.int .i64 0,.int .i64 0,.int .i64 0,.slice none 0 0,.slice none 0 0] 44);omega
 have Hm3:Hid (More w w3):=by rw[show Hid (More w w3)=More w w3 from rfl,hw3];exact((((More.refl _).alloc _ _).alloc _ _).trans m1).alloc _ _
 have zz:∀j v,Wr ((w.alloc (.cells #[.slice ra p.rl rc,.slice (some ⟨cb,co,none⟩) p.cl cc] 28)).alloc (.cells #[.int .i64 0,.int .i64 0,.int .i64 0,.slice none 0 0,.slice none 0 0] 44)) (w.heap.size+1) j v->Wr w3 (w.heap.size+1) j v:=fun j v hv=>by rw[hw3];exact(hv.kept (m1.grow none) (by simp)).kept (World.grownBy_alloc w1 _ none) (by simp)
 have HZ:Hid (Wr w3 (w.heap.size+1) 0 (.int .i64 0)/\Wr w3 (w.heap.size+1) 1 (.int .i64 0)/\Wr w3 (w.heap.size+1) 2 (.int .i64 0)/\Wr w3 (w.heap.size+1) 3 (.slice none 0 0)/\Wr w3 (w.heap.size+1) 4 (.slice none 0 0)):=
  ⟨zz 0 _ ⟨by go_simp,by go_simp⟩,zz 1 _ ⟨by go_simp,by go_simp⟩,zz 2 _ ⟨by go_simp,by go_simp⟩,zz 3 _ ⟨by go_simp,by go_simp⟩,zz 4 _ ⟨by go_simp,by go_simp⟩⟩
 have HA:Hid ((∃(x:Ms) (se:List Se),Run w3 w1.heap.size (.slice ra p.rl rc) (.slice (some ⟨cb,co,none⟩) p.cl cc) x se/\((∃k s,Way p m fuel fuel R x se k s)\/(x.ended=true/\Fin_ m R x se)))):=by
  refine⟨{ ms0 fuel with wd:=W,st:=S },[],⟨.slice none 0 0,⟨c,by rw[hw3];exact heap_alloc_last _ _,mcc⟩,World.ownsRow_nil _ _ _ _,fun q e=>by cases e⟩,.inl ⟨0,⟨0,fun _=>0,m,[]⟩,by omega,⟨rfl,⟨hW,hS⟩,rfl,rfl,rfl,rfl,rfl,rfl⟩,rfl,H.out.2.2.2.2.2.2.2.2.2,HR.out⟩⟩
 clear m1 mcc zz hw3 hS hW HN;go_wp2_with (refine wpList_store_row rfl 84 (.tmp 8) (.tmp 15) rfl w1.heap.size c rfl rfl 84 z (heap_alloc_last _ _) (by rw[Hc.out.1.size rfl];exact Hz.out.2.1) (by rw[Hc.out.1.size rfl,Hz.out.2.2]) (Hc.out.1.one rfl rfl rfl rfl rfl) ?_;rw[World.setRow_alloc_new,<-Hw3.out])
 go_loopg [] fuel (fun g wr=>∃(x:Ms) (se:List Se),Run wr w1.heap.size (.slice ra p.rl rc) (.slice (some ⟨cb,co,none⟩) p.cl cc) x se/\Below w1.heap.size w3 wr/\((∃k s,Way p m fuel g R x se k s)\/(x.ended=true/\Fin_ m R x se)))
 case atStart=>
  obtain⟨x,se,h1,h2⟩:=HA.out;exact⟨x,se,h1,Below.refl _ _,h2⟩
 case round=>
  obtain⟨x,se,hrun,hbel,hway⟩:=hrel;have HB:Hid (Below w1.heap.size w3 wr):=hbel
  have HG:Hid (Calls Tryz.prog 25 #[.pointer (some ⟨w1.heap.size,0,none⟩)] wr fun e w'=>Below w1.heap.size wr w'/\∃(b:Bool) (x':Ms),e=.returned (.bool b)/\Run w' w1.heap.size (.slice ra p.rl rc) (.slice (some ⟨cb,co,none⟩) p.cl cc) x' se/\((b=false/\Fin_ m R x' se)\/(b=true/\∃g' k s,gk=g'+1/\Way p m fuel gk R x' se k s/\s.at_ < p.cl))):=
   Jgn p m fuel gk R wr w1.heap.size (.slice ra p.rl rc) (some ⟨cb,co,none⟩) cc x se H.out.2.2.2.2.2.2.2.2.1 hrun hway
  clear hrun hbel hway HA;go_wp2_with (fail)
  refine HG.out.mono ?_;rintro e w4 ⟨b4,b,x',rfl,r4,hcase⟩;have HB4:Hid (Below w1.heap.size w3 w4):=Below.trans HB.out b4;have HR4:Hid (Run w4 w1.heap.size (.slice ra p.rl rc) (.slice (some ⟨cb,co,none⟩) p.cl cc) x' se):=r4;clear b4 r4 HG HB;rcases hcase with⟨rfl,hfin⟩ | ⟨rfl,g',k,s,rfl,hway,hat⟩
  ·have HF:Hid (Fin_ m R x' se):=hfin
   clear hfin;go_wp2_with (fail)
   refine(Jm3 w4 w1.heap.size ra p.rl rc _ x' se (baseN m.len) HR4.out (by rw[<-H.out.2.2.2.1];exact H.out.2.2.2.2.2.2.1) (fun j hj=>HF.out.w.st j (by rw[H.out.2.2.2.1];exact hj)) (fun j hj=>by have:=(H.out.2.2.2.2.2.1 j (by rw[H.out.2.2.2.1];exact hj)).1;simp only[baseN];omega) (fun j hj=>by have:=(H.out.2.2.2.2.2.1 j (by rw[H.out.2.2.2.1];exact hj)).2;simp only[baseN];omega) (fun j hj=>by have h1:=J66 m.len j (fun i hi=>(H.out.2.2.2.2.2.1 i (by rw[H.out.2.2.2.1];omega)).2);have h2:=H.out.2.2.2.2.2.2.1;have h3:=H.out.2.2.2.1;omega) (by have:=HF.out.short;omega)).mono ?_;rintro e w5 ⟨v,rfl,hsh,b5⟩;have hb5:Below w1.heap.size w3 w5:=Below.trans HB4.out b5;have HSH:Hid (∀(B:Nat) (w'':World),B < w1.heap.size->w5.grownBy w'' (some B)->J3j w'' v ⟨x'.fin,x'.val,x'.steps,se,⟨p.rl,fun j=>baseN m.len (j+1) - baseN m.len j,fun j i=>x'.wd (baseN m.len j+i)⟩⟩):=hsh;obtain⟨sv,lm,hv,hs1,hs2⟩:=hsh (w.heap.size+1) w5 (by omega) (J0u _ _);clear hsh;dsimp only at hv;subst hv;have HB5:Hid (Below w1.heap.size w3 w5):=hb5;obtain⟨sa,sb,so,sc,rfl,_,_,_⟩:=hs1;have kept:∀j v,Wr w3 (w.heap.size+1) j v->Wr w5 (w.heap.size+1) j v:=fun j v hv=>⟨by rw[Below.cell hb5 (by dsimp only;omega)];exact hv.1,by rw[World.frozen?_of_block (Below.block hb5 _ (by dsimp only;omega))];exact hv.2⟩
   obtain⟨y0,g0⟩:=kept _ _ HZ.out.1;obtain⟨y1,g1⟩:=kept _ _ HZ.out.2.1;obtain⟨y2,g2⟩:=kept _ _ HZ.out.2.2.1;obtain⟨y3,g3⟩:=kept _ _ HZ.out.2.2.2.1;obtain⟨y4,g4⟩:=kept _ _ HZ.out.2.2.2.2;clear hs2 hb5 b5 kept;obtain⟨la,hla⟩:∃la,lm.ma=la:=⟨_,rfl⟩;obtain⟨lc,hlc⟩:∃lc,lm.mc=lc:=⟨_,rfl⟩;rw[hla,hlc]at HSH |-;clear hla hlc;go_wp2;refine bodyPost_ret (v:=.tuple #[.agg #[.int .i64 x'.fin,.int .i64 x'.val,.int .i64 x'.steps,.slice sa se.length sc,.slice la p.rl lc],.int .i64 0]) (by simp[results,Tryz.results11,go_sem, *]) rfl ?_;rw[HP.out];have hg:w5.grownBy (((((w5.setCell ⟨w.heap.size+1,0,none⟩ (.int .i64 x'.fin)).setCell ⟨w.heap.size+1,1,none⟩ (.int .i64 x'.val)).setCell ⟨w.heap.size+1,2,none⟩ (.int .i64 x'.steps)).setCell ⟨w.heap.size+1,3,none⟩ (.slice sa se.length sc)).setCell ⟨w.heap.size+1,4,none⟩ (.slice la p.rl lc)) (some (w.heap.size+1)):=J0s (J0s (J0s (J0s (J0s (J0u _ _) _ _) _ _) _ _) _ _) _ _;have hsh:=HSH.out (w.heap.size+1) _ (by omega) hg;have esh:(⟨x'.fin,x'.val,x'.steps,se,⟨p.rl,fun j=>baseN m.len (j+1) - baseN m.len j,fun j i=>x'.wd (baseN m.len j+i)⟩⟩:Sh)=⟨R.fin,R.val,R.steps,R.seen,⟨p.rl,fun j=>baseN m.len (j+1) - baseN m.len j,fun j i=>x'.wd (baseN m.len j+i)⟩⟩:=by rw[HF.out.fin,HF.out.val,HF.out.steps,HF.out.seen]
   rw[esh]at hsh;have hmore:More w w5:=Below.trans Hm3.out (Below.mono HB5.out (by omega));refine⟨.agg #[.int .i64 x'.fin,.int .i64 x'.val,.int .i64 x'.steps,.slice sa se.length sc,.slice la p.rl lc],_,rfl,hsh,?_,hmore.grownBy hg (fun b hb=>by have:=Option.some.inj hb;omega)⟩;have:=Jks HF.out;rw[H.out.2.2.2.1]at this;exact this
  ·have HW:Hid (Way p m fuel (g'+1) R x' se k s/\s.at_ < p.cl):=⟨hway,hat⟩
   clear hway hat
   have hcb:cb < w1.heap.size:=by
    have h0:=(H.out.1.code 0 (by have:=H.out.2.2.2.2.2.2.2.1;omega)).1;have:=J0q h0;dsimp only at this;omega
   have hcode:=H.out.1.code s.at_ HW.out.2
   have cellsB:∀(a:Addr) (v:Value),a.block < w.heap.size->w.cell? a=some v->w4.cell? a=some v:=fun a v ha hc=>by
    rw[Below.cell HB4.out (by omega)];exact Hm3.out.cell hc
   have hcb2:cb < w.heap.size:=J0q hcode.1;have q0:=cellsB _ _ hcb2 hcode.1;have q1:=cellsB _ _ hcb2 hcode.2.1;have q2:=cellsB _ _ hcb2 hcode.2.2.1;have q3:=cellsB _ _ hcb2 hcode.2.2.2.1;have q4:=cellsB _ _ hcb2 hcode.2.2.2.2;dsimp only at q0 q1 q2 q3 q4;have hkk:=HW.out.1.kg;have hsl:=HW.out.1.inv.seen;have hB0:=Jd6 _ _ _ _ _ w4 w1.heap.size (.slice ra p.rl rc) cb co p.cl cc s.at_ x' se (by rw[HW.out.1.seen];have:=H.out.2.2.2.2.2.2.2.2.1;omega) HW.out.1.rel.next HW.out.2 H.out.2.2.2.2.2.2.2.1.2 (by rw[HW.out.1.rel.steps];omega) (by rw[HW.out.1.rel.steps];have:=H.out.2.2.2.2.2.2.2.2.1;omega) hcb q0 q1 q2 q3 q4 HR4.out
   have hD0:∀w6,Run w6 w1.heap.size (.slice ra p.rl rc) (.slice (some ⟨cb,co,none⟩) p.cl cc) { x' with steps:=x'.steps+1,next:=(s.at_:Int)+1 } (se++[⟨1,s.at_,0⟩])->Calls Tryz.prog 26 #[.pointer (some ⟨w1.heap.size,0,none⟩),.agg #[.int .i64 (p.ins s.at_).op,.int .i64 (p.ins s.at_).a,.int .i64 (p.ins s.at_).b,.int .i64 (p.ins s.at_).c,.int .i64 (p.ins s.at_).n]] w6 fun e w'=>
     e=.returned (.tuple #[])/\Below w1.heap.size w6 w'/\∃x2,Run w' w1.heap.size (.slice ra p.rl rc) (.slice (some ⟨cb,co,none⟩) p.cl cc) x2 (stepI p s).1.seen/\((∃k s',Way p m fuel g' R x2 (stepI p s).1.seen k s')\/(x2.ended=true/\Fin_ m R x2 (stepI p s).1.seen)):=by
    intro w6 r6;have hrel:=HW.out.1.rel;rw[HW.out.1.seen]at r6;refine(Jp9 p m fuel s (k+1) { x' with steps:=x'.steps+1,next:=(s.at_:Int)+1 } w6 w1.heap.size _ _ (H.out.2.1 _ HW.out.2) H.out.2.2.2.1 H.out.2.2.2.2.2.2.1 H.out.2.2.2.2.1 H.out.2.2.2.2.2.1 HW.out.1.inv.len (by have:=H.out.2.2.2.2.2.2.2.2.1;omega) ⟨hrel.r,⟨hrel.w.wd,hrel.w.st⟩,by push_cast;rfl,hrel.fin,hrel.val,by dsimp only;rw[hrel.steps];push_cast;rfl,hrel.fuel,hrel.ended⟩ r6).mono ?_;rintro e w7 ⟨rfl,b7,x2,r7,ha⟩;exact⟨rfl,b7,x2,r7,Jm9 HW.out.1 HW.out.2 (H.out.2.1 _ HW.out.2) (H.out.2.2.1 _ HW.out.2) H.out.2.2.2.1 H.out.2.2.2.2.2.2.2.2.1 ha⟩
   clear q0 q1 q2 q3 q4 hcode cellsB hcb hcb2 hkk hsl;obtain⟨I,hI⟩:∃I,p.ins s.at_=I:=⟨_,rfl⟩;rw[hI]at hB0 hD0;obtain⟨op,a,b,c',n⟩:=I;dsimp only at hB0 hD0;obtain⟨se2,hse2⟩:∃se2,(stepI p s).1.seen=se2:=⟨_,rfl⟩;rw[hse2]at hD0;have HB0:=J15 hB0;have HD0:=J15 hD0;clear hB0 hD0 hI hse2;go_wp2_with (fail)
   refine HB0.out.mono ?_;rintro e w6 ⟨rfl,r6,b6⟩;have HD1:=J15 (HD0.out w6 r6);have HB6:Hid (Below w1.heap.size w3 w6):=Below.trans HB4.out b6;clear r6 b6 HB0 HD0;go_wp2_with (fail)
   refine HD1.out.mono ?_;rintro e w7 ⟨rfl,b7,x2,r7,hway⟩;have HB7:Hid (Below w1.heap.size w3 w7):=Below.trans HB6.out b7;have HW7:=J15 (And.intro r7 hway);clear r7 b7 hway HD1;go_wp2;go_roundg g'
   case measure=>omega
   case rel=>exact⟨x2,se2,HW7.out.1,HB7.out,HW7.out.2⟩
theorem J5j(p:Prg)(l:Loc)(ma:Option Addr)(ml mc:Nat)(sv:Value)(fuel code:Int)(w:World)(hc:¬code=0)
  (hnew:∀w1,More w w1->Calls Tryz.prog 24 #[.agg #[.slice l.ra p.rl l.rc,.slice l.ca p.cl l.cc],.slice ma ml mc,Value.int .i64 fuel] w1 fun e w'=>∃z,MC z (.slice none 0 0) (.slice none 0 0) (ms0 0)/\e=.returned (.tuple #[.agg z,Value.int .i64 code])/\More w1 w'):
  Calls Tryz.prog 13 #[.agg #[.slice l.ra p.rl l.rc,.slice l.ca p.cl l.cc],.slice ma ml mc,sv,Value.int .i64 fuel] w fun e w'=>e=.returned (.tuple #[.agg #[Value.int .i64 0,Value.int .i64 0,Value.int .i64 0,.slice none 0 0,.slice none 0 0],Value.int .i64 code])/\More w w':=by
 obtain⟨z,z1,z2,z3,z4⟩:=zrow;have HN:=J15 hnew;have Hz:Hid (MC z (.slice none 0 0) (.slice none 0 0) (ms0 0)/\(Tryz.prog.info? 84).map (·.size)=some 411/\z.size=411):=⟨z3,z4,z3.size rfl⟩;clear hnew z3 z4;go_enter Tryz.func13,Tryz.ntmps13;go_wp2_with (fail)
 refine(HN.out _ (((More.refl _).alloc _ _).alloc _ _)).mono ?_;rintro e w1 ⟨c,mcc,rfl,m1⟩;have Hc:Hid (MC c (.slice none 0 0) (.slice none 0 0) (ms0 0)):=mcc;have s1:w.heap.size+2<=w1.heap.size:=by have:=m1.size;have:=size_alloc2 w (.cells #[.slice l.ra p.rl l.rc,.slice l.ca p.cl l.cc] 28) (.cells #[Value.int .i64 0,Value.int .i64 0,Value.int .i64 0,.slice none 0 0,.slice none 0 0] 44);omega
 have Hm1:Hid (More w w1):=(((More.refl _).alloc _ _).alloc _ _).trans m1;obtain⟨w3,hw3⟩:∃w3,w3=w1.alloc (.cells c 84):=⟨_,rfl⟩;have Hw3:Hid (w3=w1.alloc (.cells c 84)):=hw3;have zz:∀j v,Wr ((w.alloc (.cells #[.slice l.ra p.rl l.rc,.slice l.ca p.cl l.cc] 28)).alloc (.cells #[Value.int .i64 0,Value.int .i64 0,Value.int .i64 0,.slice none 0 0,.slice none 0 0] 44)) (w.heap.size+1) j v->Wr w3 (w.heap.size+1) j v:=fun j v hv=>by rw[hw3];exact(hv.kept (m1.grow none) (by simp)).kept (World.grownBy_alloc w1 _ none) (by simp)
 obtain⟨y0,g0⟩:=zz 0 (Value.int .i64 0) ⟨by go_simp,by go_simp⟩;obtain⟨y1,g1⟩:=zz 1 (Value.int .i64 0) ⟨by go_simp,by go_simp⟩;obtain⟨y2,g2⟩:=zz 2 (Value.int .i64 0) ⟨by go_simp,by go_simp⟩;obtain⟨y3,g3⟩:=zz 3 (.slice none 0 0) ⟨by go_simp,by go_simp⟩;obtain⟨y4,g4⟩:=zz 4 (.slice none 0 0) ⟨by go_simp,by go_simp⟩;have n1:¬w1.heap.size=w.heap.size+1:=by omega
 have n2:¬w.heap.size+1=w1.heap.size:=by omega
 clear m1 mcc zz hw3;go_wp2_with (refine wpList_store_row rfl 84 (.tmp 10) (.tmp 18) rfl w1.heap.size c rfl rfl 84 z (heap_alloc_last _ _) (by rw[Hc.out.size rfl];exact Hz.out.2.1) (by rw[Hc.out.size rfl,Hz.out.2.2]) (Hc.out.one rfl rfl rfl rfl rfl) ?_;rw[World.setRow_alloc_new,<-Hw3.out])
 refine bodyPost_ret (v:=.tuple #[.agg #[Value.int .i64 0,Value.int .i64 0,Value.int .i64 0,.slice none 0 0,.slice none 0 0],Value.int .i64 code]) (by simp[results,Tryz.results13,go_sem, *]) rfl ⟨rfl,?_⟩;have hg:w3.grownBy (((((w3.setCell ⟨w.heap.size+1,0,none⟩ (Value.int .i64 0)).setCell ⟨w.heap.size+1,1,none⟩ (Value.int .i64 0)).setCell ⟨w.heap.size+1,2,none⟩ (Value.int .i64 0)).setCell ⟨w.heap.size+1,3,none⟩ (.slice none 0 0)).setCell ⟨w.heap.size+1,4,none⟩ (.slice none 0 0)) (some (w.heap.size+1)):=J0s (J0s (J0s (J0s (J0s (J0u _ _) _ _) _ _) _ _) _ _) _ _;have h3:More w w3:=by rw[Hw3.out];exact Hm1.out.alloc _ _
 exact h3.grownBy hg (fun b hb=>by have:=Option.some.inj hb;omega)

theorem J92(p:Prg)(l:Loc)(ma:Option Addr)(ml mc:Nat)(sa:Option Addr)(sb so sn sc:Nat)(L:List Int)(fuel:Int)(w:World)(hL:L.length=sn)(hs:SIn w sa sb so L)(hbad:¬ScOk L)
  (hnew:∀w1,More w w1->Calls Tryz.prog 24 #[.agg #[.slice l.ra p.rl l.rc,.slice l.ca p.cl l.cc],.slice ma ml mc,Value.int .i64 fuel] w1 fun e w'=>∃c rv cv x,x.tl 411=none/\rv.oneCell'=true/\cv.oneCell'=true/\x.sv.oneCell'=true/\x.mv.oneCell'=true/\MC c rv cv x/\e=.returned (.tuple #[.agg c,Value.int .i64 0])/\More w1 w'):
  Calls Tryz.prog 13 #[.agg #[.slice l.ra p.rl l.rc,.slice l.ca p.cl l.cc],.slice ma ml mc,.slice sa sn sc,Value.int .i64 fuel] w fun e w'=>e=.returned (.tuple #[.agg #[Value.int .i64 0,Value.int .i64 0,Value.int .i64 0,.slice none 0 0,.slice none 0 0],Value.int .i64 3])/\More w w':=by
 obtain⟨z,z1,z2,z3,z4⟩:=zrow;have HN:=J15 hnew;have HS:=J15 (And.intro hL (And.intro hs hbad));have Hz:Hid (MC z (.slice none 0 0) (.slice none 0 0) (ms0 0)/\(Tryz.prog.info? 84).map (·.size)=some 411/\z.size=411):=⟨z3,z4,z3.size rfl⟩;clear hnew z3 z4 hL hs hbad;go_enter Tryz.func13,Tryz.ntmps13;go_wp2_with (fail)
 refine(HN.out _ (((More.refl _).alloc _ _).alloc _ _)).mono ?_;rintro e w1 ⟨c,rv,cv,x,hx1,hx2,hx3,hx4,hx5,mcc,rfl,m1⟩;have Hc:=J15 (And.intro mcc (And.intro (mcc.size hx1) (mcc.one hx2 hx3 hx4 hx5 hx1)));have s1:w.heap.size+2<=w1.heap.size:=by have:=m1.size;have:=size_alloc2 w (.cells #[.slice l.ra p.rl l.rc,.slice l.ca p.cl l.cc] 28) (.cells #[Value.int .i64 0,Value.int .i64 0,Value.int .i64 0,.slice none 0 0,.slice none 0 0] 44);omega
 have Hm1:Hid (More w w1):=(((More.refl _).alloc _ _).alloc _ _).trans m1;obtain⟨w3,hw3⟩:∃w3,w3=w1.alloc (.cells c 84):=⟨_,rfl⟩;have Hw3:Hid (w3=w1.alloc (.cells c 84)):=hw3;have zz:∀j v,Wr ((w.alloc (.cells #[.slice l.ra p.rl l.rc,.slice l.ca p.cl l.cc] 28)).alloc (.cells #[Value.int .i64 0,Value.int .i64 0,Value.int .i64 0,.slice none 0 0,.slice none 0 0] 44)) (w.heap.size+1) j v->Wr w3 (w.heap.size+1) j v:=fun j v hv=>by rw[hw3];exact(hv.kept (m1.grow none) (by simp)).kept (World.grownBy_alloc w1 _ none) (by simp)
 obtain⟨y0,g0⟩:=zz 0 (Value.int .i64 0) ⟨by go_simp,by go_simp⟩;obtain⟨y1,g1⟩:=zz 1 (Value.int .i64 0) ⟨by go_simp,by go_simp⟩;obtain⟨y2,g2⟩:=zz 2 (Value.int .i64 0) ⟨by go_simp,by go_simp⟩;obtain⟨y3,g3⟩:=zz 3 (.slice none 0 0) ⟨by go_simp,by go_simp⟩;obtain⟨y4,g4⟩:=zz 4 (.slice none 0 0) ⟨by go_simp,by go_simp⟩;have n1:¬w1.heap.size=w.heap.size+1:=by omega
 have n2:¬w.heap.size+1=w1.heap.size:=by omega
 have h3:More w w3:=by rw[hw3];exact Hm1.out.alloc _ _
 have hA:=J7s sa sb so sn sc L HS.out.1 w3 (HS.out.2.1.more h3);have HA:=J15 hA;have H3:=J15 h3;clear m1 mcc zz hw3 hx1 hx2 hx3 hx4 hx5 hA h3;go_wp2_with (refine wpList_store_row rfl 84 (.tmp 10) (.tmp 18) rfl w1.heap.size c rfl rfl 84 z (heap_alloc_last _ _) (by rw[Hc.out.2.1];exact Hz.out.2.1) (by rw[Hc.out.2.1,Hz.out.2.2]) Hc.out.2.2 ?_;rw[World.setRow_alloc_new,<-Hw3.out])
 refine HA.out.mono ?_;rintro e w4 ⟨r,rfl,hr,rfl⟩;cases r with
 | true=>exact absurd (hr.1 rfl) HS.out.2.2
 | false=>
  clear hr HA;go_wp2;refine bodyPost_ret (v:=.tuple #[.agg #[Value.int .i64 0,Value.int .i64 0,Value.int .i64 0,.slice none 0 0,.slice none 0 0],Value.int .i64 3]) (by simp[results,Tryz.results13,go_sem, *]) rfl ⟨rfl,?_⟩;have hg:w4.grownBy (((((w4.setCell ⟨w.heap.size+1,0,none⟩ (Value.int .i64 0)).setCell ⟨w.heap.size+1,1,none⟩ (Value.int .i64 0)).setCell ⟨w.heap.size+1,2,none⟩ (Value.int .i64 0)).setCell ⟨w.heap.size+1,3,none⟩ (.slice none 0 0)).setCell ⟨w.heap.size+1,4,none⟩ (.slice none 0 0)) (some (w.heap.size+1)):=J0s (J0s (J0s (J0s (J0s (J0u _ _) _ _) _ _) _ _) _ _) _ _;exact H3.out.grownBy hg (fun b hb=>by have:=Option.some.inj hb;omega)
theorem J9b{P:Program}{ops:Array Oper}{rest:List Oper}{o:Oper}{a:Act}{w:World}{Q:Exit->Act->World->Prop}(hg:o.guard=none)(t:TypeId)(parts:Array (Nat × Operand))(ho:o.op=.build t parts)(C:Array Value)
  (hf:P.built t (parts.map fun(i,x)=>(i,a.eval x)).toList=some C) (h:wpList P ops Q rest (a.put o.dst (.agg C)) w):wpList P ops Q (o::rest) a w:=by
 refine wpList_plain hg fun K hK=>?_
 unfold Oper.wp execOp;simp only[ho,Sem.run_bind,run_build w t _ C hf,Result.andThen_ok];exact hK _ _ h

theorem Jpe:∃Z:Array Value,(∀w,(zeroValue 98).run Tryz.prog w=.ok (.agg Z) w)/\Z.size=1578/\(Tryz.prog.info? 98).map (·.size)=some 1578:=by
 obtain⟨h1,h2⟩:=zero_of_info Jk1;exact⟨_,h1,by simp[rowS],h2⟩

theorem Ji4{rv cv:Value}{x:Ms}(i:Nat)(h0:rv.oneCell'=true)(h1:cv.oneCell'=true)(h2:x.sv.oneCell'=true)(h3:x.mv.oneCell'=true):(cellF rv cv x i).oneCell'=true:=by
 unfold cellF;by_cases e0:i=0
 ·rw[if_pos e0];exact h0
 rw[if_neg e0];by_cases e1:i=1
 ·rw[if_pos e1];exact h1
 rw[if_neg e1];by_cases e2:i=2
 ·rw[if_pos e2];rfl
 rw[if_neg e2];by_cases e3:i=3
 ·rw[if_pos e3];rfl
 rw[if_neg e3];by_cases e4:i=4
 ·rw[if_pos e4];rfl
 rw[if_neg e4];by_cases e5:i=5
 ·rw[if_pos e5];exact h2
 rw[if_neg e5];by_cases e6:i=6
 ·rw[if_pos e6];exact h3
 rw[if_neg e6];by_cases e7:i < 17
 ·rw[if_pos e7];rfl
 rw[if_neg e7];by_cases e8:i < 401
 ·rw[if_pos e8];rfl
 rw[if_neg e8];by_cases e9:i=401
 ·rw[if_pos e9];rfl
 rw[if_neg e9];by_cases e10:i=402
 ·rw[if_pos e10];rfl
 rw[if_neg e10];by_cases e11:i=403
 ·rw[if_pos e11];rfl
 rw[if_neg e11]
 rfl
theorem Jod{q:Tl}(i:Nat)(h:q.sc.oneCell'=true):(tlV q i).oneCell'=true:=by
 unfold tlV;by_cases e0:i=411
 ·rw[if_pos e0];exact h
 rw[if_neg e0];by_cases e1:i=412
 ·rw[if_pos e1];rfl
 rw[if_neg e1];by_cases e2:i < 797
 ·rw[if_pos e2];rfl
 rw[if_neg e2];by_cases e3:i=797
 ·rw[if_pos e3];rfl
 rw[if_neg e3];by_cases e4:i < 808
 ·rw[if_pos e4];rfl
 rw[if_neg e4];by_cases e5:i < 1192
 ·rw[if_pos e5];rfl
 rw[if_neg e5];by_cases e6:i=1192
 ·rw[if_pos e6];rfl
 rw[if_neg e6];by_cases e7:i < 1577
 ·rw[if_pos e7];rfl
 rw[if_neg e7]
 rfl
theorem MC.oneS{c:Array Value}{rv cv:Value}{x:Ms}{q:Tl}(h:MC c rv cv { x with T:=98,tl:=tlF q })(hs:c.size=1578)(h0:rv.oneCell'=true)(h1:cv.oneCell'=true)(h2:x.sv.oneCell'=true)(h3:x.mv.oneCell'=true)(h4:q.sc.oneCell'=true):c.all (·.oneCell')=true:=by
 rw[Array.all_eq_true];intro i hi;by_cases e:i < 411
 ·have h5:=h.at_ i e
  rw[Array.getElem?_eq_getElem hi]at h5;rw[Option.some.inj h5];exact Ji4 i h0 h1 h2 h3
 ·have h5:=h.tail i (by omega)
  dsimp only at h5;rw[Array.getElem?_eq_getElem hi,J95 q i (by omega)]at h5;rw[Option.some.inj h5];exact Jod i h4

theorem J91(p:Prg)(l:Loc)(m:Mem)(ml:MLoc)(sa:Option Addr)(sb so sn sc:Nat)(L:List Int)(fuel:Nat)(w:World)(hp:PIn w p l)(hm:MIn w m ml)(hok:p.Ok 8000 10)(hn64:∀i,i < p.cl->B64 (p.ins i).n)(hfit:J2r p.rl p.log m.ml m.len)(hwd:∀j,j < m.ml->∀i,i < m.len j->B64 (m.wd j i))(hfuel:fuel<=40000)(hL:L.length=sn)(hcap:sn<=sc)(hs:SIn w sa sb so L)(hsok:ScOk L):
  Calls Tryz.prog 13 #[.agg #[.slice l.ra p.rl l.rc,.slice l.ca p.cl l.cc],.slice ml.ma m.ml ml.mc,.slice sa sn sc,Value.int .i64 fuel] w fun e w'=>∃(v:Value) (mm:Mem),e=.returned (.tuple #[v,Value.int .i64 0])/\J3j w' v ⟨(playS p (flatM m) L fuel).fin,(playS p (flatM m) L fuel).val,(playS p (flatM m) L fuel).steps,(playS p (flatM m) L fuel).seen,mm⟩/\mm.ml=m.ml/\(∀j,mm.len j=m.len j)/\(∀j,j < m.ml->∀i,i < m.len j->mm.wd j i=(playS p (flatM m) L fuel).wd (baseN m.len j+i))/\More w w':=by
 have hml:m.ml=p.rl:=hfit.2.1;have hlen:∀i,i < m.ml->(m.len i:Int)=J0h (p.log i):=fun i hi=>hfit.2.2 i (by omega)
 have hpos:∀i,i < m.ml->0 < m.len i/\m.len i<=64:=fun i hi=>by
  have h1:=hlen i hi;have h2:=hok.1.2 i (by omega);have h3:=J2p (k:=(p.log i).toNat) (by omega);unfold J0h at h1;omega
 have hm6:m.ml<=6:=by rw[hml];exact hok.1.1
 have hcl:1<=p.cl/\p.cl<=8000:=⟨hok.2.1,hok.2.2.1⟩;have hall:allI p=(baseN m.len m.ml:Int):=Jmq hml hlen
 have hble:∀j,j<=m.ml->baseN m.len j<=384:=fun j hj=>by
  have h1:=J66 m.len j (fun i hi=>(hpos i (by omega)).2);omega
 have hall384:allI p<=384:=by rw[hall];have:=hble m.ml (Nat.le_refl _);omega
 have hbase:∀j,j < p.rl->0<=baseI p.log j/\baseI p.log (j+1)=baseI p.log j+J0h (p.log j)/\0<=J0h (p.log j)/\baseI p.log (j+1)<=384:=fun j hj=>by
  have h1:=J3k p m hlen j (by omega);have h2:=J3k p m hlen (j+1) (by omega);have h3:=hlen j (by omega);have h4:=hble (j+1) (by omega);exact⟨by omega,rfl,by omega,by omega⟩
 have hinv:InvS p 0 (4*0) ⟨⟨0,fun _=>0,flatM m,fun _=>[]⟩,false,0,⟨0,fun _=>0,flatM m,fun _=>[]⟩,L,[]⟩:=by
  refine⟨⟨Nat.zero_le _,fun _ _=>J1g,fun j hj=>?_,fun j=>Nat.le_refl _,fun j hj v hv=>by simp at hv⟩,fun a=>by simp at a,Nat.le_refl _,fun c hc=>?_⟩
  ·rw[hall]at hj
   obtain⟨c,i,h1,h2,rfl⟩:=J67 m.len m.ml j (by omega);dsimp only;rw[Jaz m c i h1 h2];exact hwd c h1 i h2
  ·obtain⟨j,hj⟩:=List.getElem?_of_mem hc
   exact hsok.2 j c hj
 obtain⟨z,z1,z2,z3,z4⟩:=zrow;obtain⟨Z,Z1,Z2,Z3⟩:=Jpe;have Hz:Hid (MC z (.slice none 0 0) (.slice none 0 0) (ms0 0)/\(Tryz.prog.info? 84).map (·.size)=some 411/\z.size=411):=⟨z3,z4,z3.size rfl⟩;have HZ9:Hid (Z.size=1578/\(Tryz.prog.info? 98).map (·.size)=some 1578):=⟨Z2,Z3⟩;obtain⟨ra,rb,ro,rc,ca,cb,co,cc⟩:=l;obtain rfl:ca=some ⟨cb,co,none⟩:=hp.hc (by omega);dsimp only;have HP0:=J15 (And.intro hp (And.intro hok.2.2.2 hn64));have HM0:=J15 (And.intro hml (And.intro hlen (And.intro hpos (And.intro hm6 (And.intro hcl (And.intro hall (And.intro hble (And.intro hall384 (And.intro hbase hinv)))))))));have HS0:=J15 (And.intro hL (And.intro hcap (And.intro hs (And.intro hsok hfuel))))
 have HN:Hid (∀w1,More w w1->Calls Tryz.prog 24 #[.agg #[.slice ra p.rl rc,.slice (some ⟨cb,co,none⟩) p.cl cc],.slice ml.ma m.ml ml.mc,Value.int .i64 fuel] w1 fun e w'=>∃(c:Array Value) (W S:Nat->Int),e=.returned (.tuple #[.agg c,Value.int .i64 0])/\MC c (.slice ra p.rl rc) (.slice (some ⟨cb,co,none⟩) p.cl cc) { ms0 fuel with wd:=W,st:=S }/\
   (∀j,j<=m.ml->S j=(baseN m.len j:Int))/\(∀j,j < m.ml->∀i,i < m.len j->W (baseN m.len j+i)=m.wd j i)/\More w1 w'):=
  fun w1 m1=>Jen p ⟨ra,rb,ro,rc,some ⟨cb,co,none⟩,cb,co,cc⟩ m ml fuel w1 (hp.more m1) (hm.more m1) hok hfit hpos (by omega) (by omega)
 obtain⟨R,HR⟩:∃R,Hid (playS p (flatM m) L fuel=R):=⟨_,rfl⟩;rw[HR.out]
 suffices H0:∀P:Ending->World->Prop,(∀e w',(∃(v:Value) (mm:Mem),e=.returned (.tuple #[v,Value.int .i64 0])/\J3j w' v ⟨R.fin,R.val,R.steps,R.seen,mm⟩/\mm.ml=m.ml/\(∀j,mm.len j=m.len j)/\(∀j,j < m.ml->∀i,i < m.len j->mm.wd j i=R.wd (baseN m.len j+i))/\More w w')->P e w')->Calls Tryz.prog 13 #[.agg #[.slice ra p.rl rc,.slice (some ⟨cb,co,none⟩) p.cl cc],.slice ml.ma m.ml ml.mc,.slice sa sn sc,Value.int .i64 fuel] w P from H0 _ (fun _ _ h=>h)
 intro P hP;have HP:=J15 hP;obtain⟨va,hva⟩:∃va,ml.ma=va:=⟨_,rfl⟩;obtain⟨vc,hvc⟩:∃vc,ml.mc=vc:=⟨_,rfl⟩;rw[hva,hvc]at HN |-;clear hp hm hok hn64 hfit hwd hfuel hml hlen hpos hm6 hcl hinv z3 z4 hP hva hvc hall hble hall384 hbase hL hcap hs hsok Z2 Z3;go_enter Tryz.func13,Tryz.ntmps13;go_wp2_with (fail)
 refine(HN.out _ (((More.refl _).alloc _ _).alloc _ _)).mono ?_;rintro e w1 ⟨c,W,S,rfl,mcc,hS,hW,m1⟩;obtain⟨w3,hw3⟩:∃w3,w3=w1.alloc (.cells c 84):=⟨_,rfl⟩;have Hw3:Hid (w3=w1.alloc (.cells c 84)):=hw3;have Hc:=J15 (And.intro mcc (And.intro hS (And.intro hW (And.intro (mcc.size rfl) (mcc.one rfl rfl rfl rfl rfl)))));have s1:w.heap.size+2<=w1.heap.size:=by have:=m1.size;have:=size_alloc2 w (.cells #[.slice ra p.rl rc,.slice (some ⟨cb,co,none⟩) p.cl cc] 28) (.cells #[Value.int .i64 0,Value.int .i64 0,Value.int .i64 0,.slice none 0 0,.slice none 0 0] 44);omega
 have Hm3:Hid (More w w3):=by rw[show Hid (More w w3)=More w w3 from rfl,hw3];exact((((More.refl _).alloc _ _).alloc _ _).trans m1).alloc _ _
 have zz:∀j v,Wr ((w.alloc (.cells #[.slice ra p.rl rc,.slice (some ⟨cb,co,none⟩) p.cl cc] 28)).alloc (.cells #[Value.int .i64 0,Value.int .i64 0,Value.int .i64 0,.slice none 0 0,.slice none 0 0] 44)) (w.heap.size+1) j v->Wr w3 (w.heap.size+1) j v:=fun j v hv=>by rw[hw3];exact(hv.kept (m1.grow none) (by simp)).kept (World.grownBy_alloc w1 _ none) (by simp)
 have HZ:Hid (Wr w3 (w.heap.size+1) 0 (Value.int .i64 0)/\Wr w3 (w.heap.size+1) 1 (Value.int .i64 0)/\Wr w3 (w.heap.size+1) 2 (Value.int .i64 0)/\Wr w3 (w.heap.size+1) 3 (.slice none 0 0)/\Wr w3 (w.heap.size+1) 4 (.slice none 0 0)):=
  ⟨zz 0 _ ⟨by go_simp,by go_simp⟩,zz 1 _ ⟨by go_simp,by go_simp⟩,zz 2 _ ⟨by go_simp,by go_simp⟩,zz 3 _ ⟨by go_simp,by go_simp⟩,zz 4 _ ⟨by go_simp,by go_simp⟩⟩
 have hrow3:w3.heap[w1.heap.size]?=some (.cells c 84 (0,0)):=by rw[hw3];exact heap_alloc_last _ _
 have hsz3:w3.heap.size=w1.heap.size+1:=by rw[hw3];simp
 have hA:=J7s sa sb so sn sc L HS0.out.1 w3 (HS0.out.2.2.1.more Hm3.out);have HA:=J15 hA;obtain⟨C,hC1,hC2,hC3⟩:=Jnd c _ _ _ Hc.out.1 rfl sa sn sc (w1.heap.size+1);have HC:=J15 (And.intro hC1 (And.intro hC2 (And.intro hC3 (hC3.oneS hC2 rfl rfl rfl rfl rfl))));have i77:Hid ((Tryz.prog.info? 84).map (·.size)=some c.size):=by rw[show Hid ((Tryz.prog.info? 84).map (·.size)=some c.size)=((Tryz.prog.info? 84).map (·.size)=some c.size) from rfl,Hc.out.2.2.2.1];exact Hz.out.2.1
 have hmm:=@run_makeMap Tryz.prog;clear m1 mcc zz hw3 hS hW HN hA hC1 hC2 hC3;go_wp2_with (refine wpList_store_row rfl 84 (.tmp 10) (.tmp 18) rfl w1.heap.size c rfl rfl 84 z (heap_alloc_last _ _) (by rw[Hc.out.2.2.2.1];exact Hz.out.2.1) (by rw[Hc.out.2.2.2.1,Hz.out.2.2]) Hc.out.2.2.2.2 ?_;rw[World.setRow_alloc_new,<-Hw3.out])
 refine HA.out.mono ?_;rintro e w4 ⟨r,rfl,hr,rfl⟩;obtain rfl:r=true:=hr.2 HS0.out.2.2.2.1;obtain⟨w5,hw5⟩:∃w5,w5=(w4.alloc (.map #[] 0)).alloc (.cells C 98):=⟨_,rfl⟩
 have hset:((w4.alloc (.map #[] 0)).alloc (.cells Z 98)).setRow (w1.heap.size+1+1) C=w5:=by
  rw[hw5,show w1.heap.size+1+1=(w4.alloc (.map #[] 0)).heap.size by simp[hsz3]];exact World.setRow_alloc_new _ _ _ _
 have hrowZ:((w4.alloc (.map #[] 0)).alloc (.cells Z 98)).heap[w1.heap.size+1+1]?=some (.cells Z 98 (0,0)):=by rw[<-hsz3];exact J1q _ _ _
 have Hset:=J15 (And.intro hset hrowZ);have b34:Below (w1.heap.size+1) w4 w5:=by rw[hw5];exact J07 (J07 (Below.refl _ _) (by omega) _) (by simp[hsz3]) _
 have HW5:=J15 b34
 have hmap5:MapAt w5 (w1.heap.size+1) (fun _ _=>0):=by
  rw[hw5];have h1:=MapAt.made w4;rw[hsz3]at h1;exact h1.block ((World.grownBy_alloc _ _ none).block _ h1.lt (by simp))
 have hrun5:RunS w5 (w1.heap.size+1+1) (.slice ra p.rl rc) (.slice (some ⟨cb,co,none⟩) p.cl cc) { ms0 fuel with wd:=W,st:=S } (zTl (.slice sa sn sc) (w1.heap.size+1)) []:=by
  refine⟨⟨.slice none 0 0,⟨C,?_,HC.out.2.2.1⟩,World.ownsRow_nil _ _ _ _,fun q e=>by cases e⟩⟩;rw[hw5,<-hsz3];exact J1q _ _ _
 have hsc5:ScAt w5 (w1.heap.size+1) (.slice sa sn sc) L:=by
  refine⟨sa,sc,by rw[HS0.out.1],by rw[HS0.out.1];exact HS0.out.2.1,fun hne=>?_⟩;have hpos:0 < L.length:=List.length_pos_iff.2 hne;have hc0:=HS0.out.2.2.1.cells 0 (L[0]) (List.getElem?_eq_getElem hpos);have hlt:=J0q hc0;dsimp only at hlt;refine⟨sb,so,HS0.out.2.2.1.ha hpos,by omega,fun j c hj=>?_⟩;rw[Below.cell b34 (by dsimp only;omega)];exact Hm3.out.cell (HS0.out.2.2.1.cells j c hj)
 have HA5:Hid (∃(x:Ms) (q:Tl) (se:List Se) (f:Int->Int->Int),RunS w5 (w1.heap.size+1+1) (.slice ra p.rl rc) (.slice (some ⟨cb,co,none⟩) p.cl cc) x q se/\x.mo=[]/\q.mb=w1.heap.size+1/\MapAt w5 (w1.heap.size+1) f/\((∃s k,WayS p fuel fuel R x q f se s k/\ScAt w5 (w1.heap.size+1) q.sc s.script)\/(x.ended=true/\q.ahead=false/\FinS p R x q se))):=by
  refine⟨_,_,_,_,hrun5,rfl,rfl,hmap5,.inl ⟨⟨⟨0,fun _=>0,flatM m,fun _=>[]⟩,false,0,⟨0,fun _=>0,flatM m,fun _=>[]⟩,L,[]⟩,0,⟨by omega,⟨rfl,fun j hj=>?_,rfl,rfl,rfl,rfl,rfl,rfl,fun j hj=>?_,fun _ _=>rfl,fun j hj t v hv=>by simp at hv,rfl,fun a=>by simp at a,fun a=>by simp at a,fun a=>by simp at a,fun a=>by simp at a,fun a=>by simp at a,fun a=>by simp at a,fun a=>by simp at a⟩,rfl,HM0.out.2.2.2.2.2.2.2.2.2,HR.out⟩,hsc5⟩⟩
  ·rw[HM0.out.2.2.2.2.2.1]at hj
   exact Jik Hc.out.2.2.1 j (by omega)
  ·show S j=_
   rw[Hc.out.2.1 j (by rw[HM0.out.1];exact hj)];exact J3k p m HM0.out.2.1 j (by rw[HM0.out.1];exact hj)
 clear hr HA hw5 hset hrowZ b34 hmap5 hrun5 hsc5
 go_wp2_with (first
  | (refine wpList_load_row rfl 84 (.tmp 10) rfl w1.heap.size rfl 84 c (0,0) _ hrow3 Tryz.underlying84 rfl i77.out ?_)
  | (refine J9b rfl 98 #[(0,.tmp 28),(1,.tmp 29),(2,.tmp 30)] rfl C (by simp[Act.eval];exact HC.out.1) ?_)
  | (refine wpList_store_row rfl 98 (.tmp 12) (.tmp 31) rfl (w1.heap.size+1+1) C rfl rfl 98 Z Hset.out.2 (by rw[HC.out.2.1];exact HZ9.out.2) (by rw[HC.out.2.1,HZ9.out.1]) HC.out.2.2.2 ?_;rw[Hset.out.1]))
 go_simp
 obtain⟨M,hM⟩:∃M,M=w1.heap.size+1+1:=⟨_,rfl⟩;obtain⟨mb,hmb⟩:∃mb,mb=w1.heap.size+1:=⟨_,rfl⟩;rw[<-hM,<-hmb]at HA5;rw[<-hmb]at HW5;have HMM:Hid (M=w1.heap.size+1+1/\mb=w1.heap.size+1/\w.heap.size+2<=w1.heap.size):=⟨hM,hmb,s1⟩;rw[<-hM,<-hmb];clear hM hmb hrow3 hsz3 s1 hmm Hset HC HZ9 Hz Hw3 i77 Z1 z1 z2;go_loopg [] fuel (fun g wr=>∃(x:Ms) (q:Tl) (se:List Se) (f:Int->Int->Int),RunS wr M (.slice ra p.rl rc) (.slice (some ⟨cb,co,none⟩) p.cl cc) x q se/\x.mo=[]/\q.mb=mb/\MapAt wr mb f/\Below mb w4 wr/\((∃s k,WayS p fuel g R x q f se s k/\ScAt wr mb q.sc s.script)\/(x.ended=true/\q.ahead=false/\FinS p R x q se)))
 case atStart=>
  obtain⟨x,q,se,f,h1,h2,h3,h4,h5⟩:=HA5.out;exact⟨x,q,se,f,h1,h2,h3,h4,HW5.out,h5⟩
 case round=>
  obtain⟨x,q,se,f,hrun,hmo,hqm,hmap,hbel,hway⟩:=hrel;have hlt:mb < M:=by have:=HMM.out;omega
  have Hst:=J15 (And.intro hrun (And.intro hmo (And.intro hqm (And.intro hmap (And.intro hbel hlt)))));have HWy:=J15 hway;have HG:=J15 (J8z (p:=p) (fuel:=fuel) (g:=gk) (R:=R) (f:=f) (.slice ra p.rl rc) (some ⟨cb,co,none⟩) cc HS0.out.2.2.2.2 hrun (fun s=>ScAt wr mb q.sc s.script) hway);clear hrun hmo hqm hmap hbel hway HA5 hlt;go_wp2_with (fail)
  refine HG.out.mono ?_;rintro e w6 ⟨b6,b,x',q',se',rfl,r6,hq1,hq2,hx1,hcase⟩;have H6:=J15 (And.intro r6 (And.intro b6 (And.intro hq1 (And.intro hq2 hx1))));clear b6 r6 HG hq1 hq2 hx1;rcases hcase with⟨rfl,hfin⟩ | ⟨rfl,g',s,k,rfl,hkg,hsim,hse,hinv,hat,hsc,hw,hphi⟩
  ·have HF:=J15 hfin
   clear hfin
   have hst2:∀j,j<=p.rl->x'.st j=(baseN m.len j:Int):=fun j hj=>by
    rw[HF.out.st j hj];exact(J3k p m HM0.out.2.1 j (by rw[HM0.out.1];exact hj)).symm
   have HT:=J15 (Jjn w6 M ra p.rl rc _ x' q' se' (baseN m.len) H6.out.1 (by rw[<-HM0.out.1];exact HM0.out.2.2.2.1) hst2 (fun j hj=>by have:=(HM0.out.2.2.1 j (by rw[HM0.out.1];exact hj)).1;simp only[baseN];omega) (fun j hj=>by have:=(HM0.out.2.2.1 j (by rw[HM0.out.1];exact hj)).2;simp only[baseN];omega) (fun j hj=>HM0.out.2.2.2.2.2.2.1 j (by rw[HM0.out.1];exact hj)) HF.out.short);clear hst2;go_wp2_with (fail)
   refine HT.out.mono ?_;rintro e w7 ⟨v,rfl,hsh,b7⟩;have hb7:Below mb w4 w7:=Below.trans Hst.out.2.2.2.2.1 (Below.mono (Below.trans H6.out.2.1 b7) (Nat.le_of_lt Hst.out.2.2.2.2.2));have HSH:=J15 hsh;have hlt1:w.heap.size+1 < M:=by have:=HMM.out;omega
   have hlt2:w.heap.size+1 < mb:=by have:=HMM.out;omega
   obtain⟨sv,lm,hv,hs1,hs2⟩:=hsh (w.heap.size+1) w7 hlt1 (J0u _ _);clear hsh;dsimp only at hv;subst hv;have HB7:=J15 (And.intro hb7 (And.intro hlt1 hlt2));obtain⟨sa',sb',so',sc',rfl,_,_,_⟩:=hs1;have kept:∀j v,Wr w4 (w.heap.size+1) j v->Wr w7 (w.heap.size+1) j v:=fun j v hv=>⟨by rw[Below.cell hb7 hlt2];exact hv.1,by rw[World.frozen?_of_block (Below.block hb7 _ hlt2)];exact hv.2⟩
   obtain⟨y0,g0⟩:=kept _ _ HZ.out.1;obtain⟨y1,g1⟩:=kept _ _ HZ.out.2.1;obtain⟨y2,g2⟩:=kept _ _ HZ.out.2.2.1;obtain⟨y3,g3⟩:=kept _ _ HZ.out.2.2.2.1;obtain⟨y4,g4⟩:=kept _ _ HZ.out.2.2.2.2;clear hs2 hb7 b7 kept hlt1 hlt2 HT;obtain⟨la,hla⟩:∃la,lm.ma=la:=⟨_,rfl⟩;obtain⟨lc,hlc⟩:∃lc,lm.mc=lc:=⟨_,rfl⟩;rw[hla,hlc]at HSH |-;clear hla hlc;go_wp2;refine bodyPost_ret (v:=.tuple #[.agg #[Value.int .i64 x'.fin,Value.int .i64 x'.val,Value.int .i64 x'.steps,.slice sa' se'.length sc',.slice la p.rl lc],Value.int .i64 0]) (by simp[results,Tryz.results13,go_sem, *]) rfl ?_;have hg:w7.grownBy (((((w7.setCell ⟨w.heap.size+1,0,none⟩ (Value.int .i64 x'.fin)).setCell ⟨w.heap.size+1,1,none⟩ (Value.int .i64 x'.val)).setCell ⟨w.heap.size+1,2,none⟩ (Value.int .i64 x'.steps)).setCell ⟨w.heap.size+1,3,none⟩ (.slice sa' se'.length sc')).setCell ⟨w.heap.size+1,4,none⟩ (.slice la p.rl lc)) (some (w.heap.size+1)):=J0s (J0s (J0s (J0s (J0s (J0u _ _) _ _) _ _) _ _) _ _) _ _;have hsh:=HSH.out (w.heap.size+1) _ HB7.out.2.1 hg
   have esh:(⟨x'.fin,x'.val,x'.steps,se',⟨p.rl,fun j=>baseN m.len (j+1) - baseN m.len j,fun j i=>(if q'.ahead=true then q'.bw else x'.wd) (baseN m.len j+i)⟩⟩:Sh)=⟨R.fin,R.val,R.steps,R.seen,⟨p.rl,fun j=>baseN m.len (j+1) - baseN m.len j,fun j i=>(if q'.ahead=true then q'.bw else x'.wd) (baseN m.len j+i)⟩⟩:=by rw[HF.out.fin,HF.out.val,HF.out.steps,HF.out.seen]
   rw[esh]at hsh;have hmore:More w w7:=Below.trans Hm3.out (Below.mono HB7.out.1 (by have:=HB7.out.2.2;omega));refine HP.out _ _ ⟨.agg #[Value.int .i64 x'.fin,Value.int .i64 x'.val,Value.int .i64 x'.steps,.slice sa' se'.length sc',.slice la p.rl lc],_,rfl,hsh,HM0.out.1.symm,fun j=>by simp only[baseN];omega,fun j hj i hi=>?_,hmore.grownBy hg (fun b hb=>by have:=Option.some.inj hb;omega)⟩;refine HF.out.wd _ ?_;rw[HM0.out.2.2.2.2.2.1];have:=J3q m.len (j+1) m.ml hj;simp only[baseN]at this;omega
  ·have hb46:Below mb w4 w6:=Below.trans Hst.out.2.2.2.2.1 (Below.mono H6.out.2.1 (Nat.le_of_lt Hst.out.2.2.2.2.2))
   have hscx:ScAt w6 mb q'.sc (s.noneLeft p.cl).script:=by
    rw[H6.out.2.2.2.1,hsc];exact hphi.below (Below.mono H6.out.2.1 (Nat.le_of_lt Hst.out.2.2.2.2.2))
   have hB:Bgn p fuel w6 M mb x' q' f (s.noneLeft p.cl) k:=⟨hsim,by rw[H6.out.2.2.1];exact Hst.out.2.2.1,Hst.out.2.2.2.2.2,Hst.out.2.2.2.1.below H6.out.2.1 Hst.out.2.2.2.2.2,hscx,hinv,by omega,HS0.out.2.2.2.2,HM0.out.2.2.2.2.2.2.2.1,HM0.out.2.2.2.2.2.2.2.2.1,by rw[<-HM0.out.1];exact HM0.out.2.2.2.1⟩;have hcode:=HP0.out.1.code (s.noneLeft p.cl).pl.at_ hat;have hcbw:cb < w.heap.size:=J0q hcode.1;have hcbm:cb < mb:=by have:=HMM.out;omega
   have cellsB:∀(o:Nat) (v:Value),w.cell? ⟨cb,o,none⟩=some v->w6.cell? ⟨cb,o,none⟩=some v:=fun o v hc=>by
    rw[Below.cell hb46 hcbm];exact Hm3.out.cell hc
   rw[hse]at H6;have HSp:=J15 (Jbn ra rc cb co cc hB hat HM0.out.2.2.2.2.1.2 (by have:=Hst.out.2.2.2.2.2;omega) (HP0.out.2.1 _ hat) (HP0.out.2.2 _ hat) ⟨cellsB _ _ hcode.1,cellsB _ _ hcode.2.1,cellsB _ _ hcode.2.2.1,cellsB _ _ hcode.2.2.2.1,cellsB _ _ hcode.2.2.2.2⟩ H6.out.1);have HWW:=J15 (And.intro hw (And.intro hat hb46));clear hw hat hsim hse hinv hsc hphi hB hcode hcbw hcbm cellsB hscx hb46 hkg;go_wp2_with (fail)
   refine HSp.out.mono ?_;rintro e w8 ⟨rfl,b8,x2,q2,se2,ht,r8⟩;have hnx:=Jjv HS0.out.2.2.2.2 HWW.out.1 HWW.out.2.1 (HP0.out.2.1 _ HWW.out.2.1) (HP0.out.2.2 _ HWW.out.2.1) ht;have H8:=J15 (And.intro r8 (And.intro (Below.trans HWW.out.2.2 b8) hnx));clear r8 b8 ht hnx HSp;go_wp2;go_roundg g'
   case measure=>omega
   case rel=>
    obtain⟨f',h1,h2,h3⟩:=H8.out.2.2;refine⟨{ x2 with mo:=x'.mo },q2,se2,f',H8.out.1,?_,h1,h2,H8.out.2.1,?_⟩
    ·show x'.mo=[]
     rw[H6.out.2.2.2.2];exact Hst.out.2.1
    ·rcases h3 with⟨s',k',h4,h5⟩ | ⟨h4,h5,h6⟩
     ·exact .inl ⟨s',k',h4.mos _,h5⟩
     ·exact .inr ⟨h4,h5,h6.mos _⟩
theorem Jd9(p:Prg)(l:Loc)(m:Mem)(ml:MLoc)(sa:Option Addr)(sb so sn sc:Nat)(L:List Int)(fuel:Int)(w:World)(hp:PIn w p l)(hfit:p.Fit)(hm:MRaw w m ml)(hwd:∀j,j < m.ml->∀i,i < m.len j->B64 (m.wd j i))(hL:L.length=sn)(hcap:sn<=sc)(hsin:SIn w sa sb so L):
  Calls Tryz.prog 13 #[.agg #[.slice l.ra p.rl l.rc,.slice l.ca p.cl l.cc],.slice ml.ma m.ml ml.mc,.slice sa sn sc,V fuel] w (Jmo p m L fuel w):=by
 have bad:∀code:Int,¬code=0->Wr1 p m L fuel code->∀e w',e=.returned (.tuple #[.agg #[V 0,V 0,V 0,.slice none 0 0,.slice none 0 0],V code])/\More w w'->Jmo p m L fuel w e w':=by
  rintro code hc hw e w' ⟨rfl,mm⟩;exact⟨0,0,0,code,none,0,0,none,0,0,rfl,hw,fun h=>absurd h hc,mm⟩
 by_cases hok:p.Ok 8000 10/\J2r p.rl p.log m.ml m.len
 ·by_cases hf:fuel < 0\/40000 < fuel
  ·exact(J5j p l ml.ma m.ml ml.mc _ fuel 3 w (by decide) (fun w2 m2=>J6i p l ml.ma m.ml ml.mc ml.mb ml.mo ml.A m.len ml.C fuel w2 (hp.more m2) hm.hm (hm.lists.more m2) hok.1 hok.2 hf)).mono (bad 3 (by decide) (.inr (.inl ⟨hok,.inl hf,rfl⟩)))
  ·obtain⟨f,rfl⟩:∃f:Nat,fuel=f:=⟨fuel.toNat,by omega⟩
   obtain⟨hpos,h6⟩:=Jax hok.1 hok.2;have hin:=hm.in_ h6 (fun i hi=>(hpos i hi).2);have hn:∀i,i < p.cl->B64 (p.ins i).n:=fun i hi=>(hfit.ins i hi).2.2.2.2
   by_cases hsok:ScOk L
   ·refine(J91 p l m ml sa sb so sn sc L f w hp hin hok.1 hn hok.2 hwd (by omega) hL hcap hsin hsok).mono ?_
    rintro e w' ⟨v,mm,rfl,⟨sv,lv,rfl,hs,_⟩,_,_,_,m2⟩;have hs0:=hs;obtain⟨a,b,o,c,rfl,_⟩:=hs;exact⟨_,_,_,_,_,_,_,_,_,_,rfl,.inr (.inr ⟨hok,hf,hsok,rfl⟩),fun _=>⟨rfl,hs0⟩,m2⟩
   ·refine(J92 p l ml.ma m.ml ml.mc sa sb so sn sc L f w hL hsin hsok (fun w2 m2=>?_)).mono (bad 3 (by decide) (.inr (.inl ⟨hok,.inr hsok,rfl⟩)))
    refine(Jen p l m ml f w2 (hp.more m2) (hin.more m2) hok.1 hok.2 hpos (by omega) (by omega)).mono ?_;rintro e w' ⟨c,W,S,rfl,mcc,hS,hW,m3⟩;exact⟨c,_,_,_,rfl,rfl,rfl,rfl,rfl,mcc,rfl,m3⟩
 ·exact(J5j p l ml.ma m.ml ml.mc _ fuel 2 w (by decide) (fun w2 m2=>J7o p l ml.ma m.ml ml.mc ml.mb ml.mo ml.A m.len ml.C fuel w2 (hp.more m2) hm.hm (hm.lists.more m2) hok)).mono (bad 2 (by decide) (.inl ⟨hok,rfl⟩))
def ToldR(code fin val steps:Int)(n:Nat)(w:World)(e:Ending)(w':World):Prop:=
 ∃(x1 x2 x3:Int) (a:Option Addr) (k c:Nat) (u:Value),e=.returned (.tuple #[.agg #[V x1,V x2,V x3,.slice a k c,u],V code])/\(code=0->x1=fin/\x2=val/\x3=steps/\k=n)/\More w w'/\∃a2 k2 c2,u=.slice a2 k2 c2

def Wr0(p:Prg)(m:Mem)(fuel c:Int):Prop:=Wr1 p m [] fuel c
theorem J6n(p:Prg)(l:Loc)(m:Mem)(ml:MLoc)(sa:Option Addr)(sb so sn sc:Nat)(L:List Int)(fuel:Int)(w:World)(hp:PIn w p l)(hfit:p.Fit)(hm:MRaw w m ml)(hwd:∀j,j < m.ml->∀i,i < m.len j->B64 (m.wd j i))(hL:L.length=sn)(hcap:sn<=sc)(hsin:SIn w sa sb so L):
  Calls Tryz.prog 13 #[.agg #[.slice l.ra p.rl l.rc,.slice l.ca p.cl l.cc],.slice ml.ma m.ml ml.mc,.slice sa sn sc,V fuel] w fun e w'=>∃c,Wr1 p m L fuel c/\ToldR c (playS p (flatM m) L fuel.toNat).fin (playS p (flatM m) L fuel.toNat).val (playS p (flatM m) L fuel.toNat).steps (playS p (flatM m) L fuel.toNat).seen.length w e w':=by
 by_cases hz:Wr1 p m L fuel 0
 ·obtain⟨hok,hf,hsok⟩:=Jbw hz
  clear hz;obtain⟨f,rfl⟩:∃f:Nat,fuel=f:=⟨fuel.toNat,by omega⟩;obtain⟨hpos,h6⟩:=Jax hok.1 hok.2;have hin:=hm.in_ h6 (fun i hi=>(hpos i hi).2);have hn:∀i,i < p.cl->B64 (p.ins i).n:=fun i hi=>(hfit.ins i hi).2.2.2.2
  refine(J91 p l m ml sa sb so sn sc L f w hp hin hok.1 hn hok.2 hwd (by omega) hL hcap hsin hsok).mono ?_;rintro e w' ⟨v,mm,rfl,⟨sv,lv,rfl,hs,_⟩,_,_,_,m2⟩;obtain⟨a,b,o,c,rfl,_⟩:=hs;exact⟨0,.inr (.inr ⟨hok,hf,hsok,rfl⟩),_,_,_,_,_,_,_,rfl,fun _=>⟨rfl,rfl,rfl,rfl⟩,m2,_,_,_,rfl⟩
 ·refine(Jd9 p l m ml sa sb so sn sc L fuel w hp hfit hm hwd hL hcap hsin).mono ?_
  rintro e w' ⟨x1,x2,x3,code,a,n,c,a',n',c',rfl,hw,h0,mm⟩;exact⟨code,hw,x1,x2,x3,a,n,c,_,rfl,fun h=>absurd (h▸hw) hz,mm,_,_,_,rfl⟩
theorem J7r(p:Prg)(l:Loc)(m:Mem)(ml:MLoc)(fuel:Int)(w:World)(hp:PIn w p l)(hfit:p.Fit)(hm:MRaw w m ml)(hwd:∀j,j < m.ml->∀i,i < m.len j->B64 (m.wd j i)):
  Calls Tryz.prog 11 #[.agg #[.slice l.ra p.rl l.rc,.slice l.ca p.cl l.cc],.slice ml.ma m.ml ml.mc,V fuel] w fun e w'=>∃c,Wr0 p m fuel c/\ToldR c (playI p m fuel.toNat).fin (playI p m fuel.toNat).val (playI p m fuel.toNat).steps (playI p m fuel.toNat).seen.length w e w':=by
 have hnil:ScOk []:=⟨by decide,fun j c h=>by simp at h⟩
 have bad:∀code:Int,¬code=0->Wr0 p m fuel code->∀e w',e=.returned (.tuple #[.agg #[V 0,V 0,V 0,.slice none 0 0,.slice none 0 0],V code])/\More w w'->∃c,Wr0 p m fuel c/\ToldR c (playI p m fuel.toNat).fin (playI p m fuel.toNat).val (playI p m fuel.toNat).steps (playI p m fuel.toNat).seen.length w e w':=by
  rintro code hc hw e w' ⟨rfl,mm⟩;exact⟨code,hw,0,0,0,none,0,0,_,rfl,fun h=>absurd h hc,mm,_,_,_,rfl⟩
 by_cases hok:p.Ok 8000 10/\J2r p.rl p.log m.ml m.len
 ·by_cases hf:fuel < 0\/40000 < fuel
  ·exact(J6j p l ml.ma m.ml ml.mc fuel 3 w (by decide) (fun w2 m2=>J6i p l ml.ma m.ml ml.mc ml.mb ml.mo ml.A m.len ml.C fuel w2 (hp.more m2) hm.hm (hm.lists.more m2) hok.1 hok.2 hf)).mono (bad 3 (by decide) (.inr (.inl ⟨hok,.inl hf,rfl⟩)))
  ·obtain⟨f,rfl⟩:∃f:Nat,fuel=f:=⟨fuel.toNat,by omega⟩
   obtain⟨hpos,h6⟩:=Jax hok.1 hok.2;have hin:=hm.in_ h6 (fun i hi=>(hpos i hi).2);have hn:∀i,i < p.cl->B64 (p.ins i).n:=fun i hi=>(hfit.ins i hi).2.2.2.2
   refine(Jhn p l m ml f w hp hin hok.1 hn hok.2 hwd (by omega)).mono ?_;rintro e w' ⟨v,mm,rfl,⟨sv,lv,rfl,hs,_⟩,_,m2⟩;obtain⟨a,b,o,c,rfl,_⟩:=hs;exact⟨0,.inr (.inr ⟨hok,hf,hnil,rfl⟩),_,_,_,_,_,_,_,rfl,fun _=>⟨rfl,rfl,rfl,rfl⟩,m2,_,_,_,rfl⟩
 ·exact(J6j p l ml.ma m.ml ml.mc fuel 2 w (by decide) (fun w2 m2=>J7o p l ml.ma m.ml ml.mc ml.mb ml.mo ml.A m.len ml.C fuel w2 (hp.more m2) hm.hm (hm.lists.more m2) hok)).mono (bad 2 (by decide) (.inl ⟨hok,rfl⟩))
theorem Jot:(Tryz.prog.info? 149).map (fun i=>(i.zero,i.size,i.bytes))=some (some (.int .u32 0),1,4):=by kernel_rfl

def Jmn(p:Prg)(w:World)(e:Ending)(w':World):Prop:=
  ∃f:Int × Int,PutR p f/\More w w'/\
    ((f.1=0/\∃g c,e=.returned (.tuple #[.slice (some ⟨g,0,none⟩) p.cl c,.agg #[V 0,V 0]])/\w.heap.size<=g/\J84 w' g 0 p.cl (fun j=>encW (p.ins j)))\/
     (¬f.1=0/\e=.returned (.tuple #[.slice none 0 0,.agg #[V f.1,V f.2]])))
structure Kp(Lb:Nat)(ob ob':Option Nat)(w w':World):Prop where
 os:w'.os=w.os
 tape:w'.tape=w.tape
 output:w'.output=w.output
 size:w.heap.size<=w'.heap.size
 block:∀b,b < w.heap.size->b≠Lb->some b≠ob->w'.heap[b]?=w.heap[b]?
 own:ob'=ob\/∃b,ob'=some b/\w.heap.size<=b
theorem Kp.of{Lb:Nat}{ob:Option Nat}{w w':World}(m:More w w'):Kp Lb ob ob w w':=⟨m.os,m.tape,m.output,m.size,fun b h _ _=>m.block b h,.inl rfl⟩
theorem Kp.trans{Lb:Nat}{o1 o2 o3:Option Nat}{a b c:World}(h:Kp Lb o1 o2 a b)(k:Kp Lb o2 o3 b c):Kp Lb o1 o3 a c:=by
 refine⟨k.os.trans h.os,k.tape.trans h.tape,k.output.trans h.output,Nat.le_trans h.size k.size,fun x hx h1 h2=>(k.block x (Nat.lt_of_lt_of_le hx h.size) h1 ?_).trans (h.block x hx h1 h2),?_⟩
 ·rcases h.own with e | ⟨y,e,hy⟩
  ·rw[e];exact h2
  ·rw[e];intro q;cases q;omega
 ·rcases k.own with e | ⟨y,e,hy⟩
  ·rw[e];exact h.own
  ·exact .inr ⟨y,e,Nat.le_trans h.size hy⟩
theorem Kp.blk{Lb:Nat}{ob ob':Option Nat}{w w':World}(h:Kp Lb ob ob' w w'){b:Nat}{cs:Array Value}{T:TypeId}(k:Blk w b cs T)(h1:b≠Lb)(h2:some b≠ob):Blk w' b cs T:=(h.block b k.lt h1 h2).trans k
theorem Kp.more{Lb:Nat}{ob ob':Option Nat}{w0 w w':World}(h:Kp Lb ob ob' w w')(m:More w0 w)(h1:w0.heap.size<=Lb)(h2:∀b,ob=some b->w0.heap.size<=b):More w0 w':=
 ⟨h.os.trans m.os,h.tape.trans m.tape,h.output.trans m.output,Nat.le_trans m.size h.size,fun b hb=>(h.block b (Nat.lt_of_lt_of_le hb m.size) (by omega) (fun e=>by have:=h2 b e.symm;omega)).trans (m.block b hb)⟩

def Ld(w:World)(Lb:Nat)(rv cv:Value)(lo:Nat)(L:List Ins)(ob:Option Nat):Prop:=
 Lb < lo/\∃va vc,Blk w Lb #[rv,cv,.slice va L.length vc] 109/\w.ownsRow lo 41 5 (.slice va L.length vc) L.length (flatI L)/\(Value.slice va L.length vc).ownBlock=ob
theorem Ld.lo{w:World}{Lb:Nat}{rv cv:Value}{lo:Nat}{L:List Ins}{ob:Option Nat}(h:Ld w Lb rv cv lo L ob):∀b,ob=some b->lo<=b/\b < w.heap.size:=by
 obtain⟨_,va,vc,_,h2,rfl⟩:=h;exact fun b hb=>h2.lt b hb
theorem Ld.more{w w':World}{Lb:Nat}{rv cv:Value}{lo:Nat}{L:List Ins}{ob:Option Nat}(h:Ld w Lb rv cv lo L ob)(m:More w w'):Ld w' Lb rv cv lo L ob:=by
 obtain⟨h0,va,vc,h1,h2,h3⟩:=h;exact⟨h0,va,vc,h1.more m,World.ownsRow.kept h2 (m.grow none) (by cases (Value.slice va L.length vc).ownBlock<;>simp),h3⟩
def Lw(Lb:Nat)(rv cv:Value)(lo:Nat)(L X:List Ins)(ob:Option Nat)(w w':World):Prop:=∃ob',Ld w' Lb rv cv lo (L++X) ob'/\Kp Lb ob ob' w w'
def Laid(Lb:Nat)(rv cv:Value)(lo:Nat)(L X:List Ins)(ob:Option Nat)(w:World)(e:Ending)(w':World):Prop:=e=.returned (.tuple #[])/\Lw Lb rv cv lo L X ob w w'
theorem Ld.start{w:World}{Lb:Nat}{rv cv:Value}{lo:Nat}{L:List Ins}{ob:Option Nat}(h:Ld w Lb rv cv lo L ob):Lw Lb rv cv lo L [] ob w w:=⟨ob,by rw[List.append_nil];exact h,Kp.of (More.refl _)⟩
theorem Lw.more{w w1 w2:World}{Lb:Nat}{rv cv:Value}{lo:Nat}{L X:List Ins}{ob:Option Nat}(h:Lw Lb rv cv lo L X ob w w1)(m:More w1 w2):Lw Lb rv cv lo L X ob w w2:=by
 obtain⟨o,h1,h2⟩:=h;exact⟨o,h1.more m,h2.trans (Kp.of m)⟩
theorem Lw.size{w w1:World}{Lb:Nat}{rv cv:Value}{lo:Nat}{L X:List Ins}{ob:Option Nat}(h:Lw Lb rv cv lo L X ob w w1):w.heap.size<=w1.heap.size:=by
 obtain⟨o,h1,h2⟩:=h;exact h2.size
theorem Lw.call{F:Nat}{args:Array Value}{w w1:World}{Lb:Nat}{rv cv:Value}{lo:Nat}{L X Y:List Ins}{ob:Option Nat}(h:Lw Lb rv cv lo L X ob w w1)(c:∀ob1,Ld w1 Lb rv cv lo (L++X) ob1->Calls Tryz.prog F args w1 (Laid Lb rv cv lo (L++X) Y ob1 w1)):Calls Tryz.prog F args w1 (Laid Lb rv cv lo L (X++Y) ob w):=by
 obtain⟨o,h1,h2⟩:=h;refine(c o h1).mono ?_;rintro e w' ⟨he,o',h3,h4⟩;exact⟨he,o',by rw[<-List.append_assoc];exact h3,h2.trans h4⟩

theorem Jou:(Tryz.prog.info? 41).map (fun i=>(i.zero,i.size,i.bytes))=some (some (.agg #[V 0,V 0,V 0,V 0,V 0]),5,40):=by kernel_rfl

theorem Jiy(Lb:Nat)(rv cv:Value)(lo:Nat)(L X:List Ins)(ob:Option Nat)(w:World)(h:Ld w Lb rv cv lo L ob)(hlo:lo<=w.heap.size)(g m:Nat)(hm:X.length=m)(h1:1<=m)(h2:m<=2)(hL:L.length<=9000)(hX:NewsAt w g X):
  Calls Tryz.prog 117 #[.pointer (some ⟨Lb,0,none⟩),.slice (some ⟨g,0,none⟩) m m] w (Laid Lb rv cv lo L X ob w):=by
 obtain⟨hlt,va,vc,hB,hO,hob⟩:=h;obtain⟨i0,hi,hz0,hz1,hz2⟩:=info_parts Jou;have Hi:Hid (Tryz.prog.info? 41=some i0/\i0.zero=some (.agg #[V 0,V 0,V 0,V 0,V 0])/\i0.size=5/\i0.bytes=40):=⟨hi,hz0,hz1,hz2⟩;have hc:w.cell? ⟨Lb,2,none⟩=some (.slice va L.length vc):=hB.cell rfl;have HB:Hid (Blk w Lb #[rv,cv,.slice va L.length vc] 109):=hB;obtain⟨n,Hn⟩:∃x,Hid (L.length=x):=⟨_,rfl⟩;rw[Hn.out]at hO hc hob HB hL;have HO:Hid (w.ownsRow lo 41 5 (.slice va n vc) n (flatI L)):=hO;have HX:Hid (NewsAt w g X/\X.length=m):=⟨hX,hm⟩;have Hob:Hid ((Value.slice va n vc).ownBlock=ob):=hob;have hne:∀b,(Value.slice va n vc).ownBlock=some b->lo<=b:=fun b hb=>(hO.lt b hb).1
 have Hne:Hid (∀b,(Value.slice va n vc).ownBlock=some b->lo<=b):=hne;clear hi hz0 hz1 hz2 hB hO hX hm hob hne;go_enter Tryz.func117,Tryz.ntmps117;go_wp2_with (at_builtin;refine wpList_append_lies _ rfl (.tmp 8) (.tmp 9) 26 rfl lo 41 i0 (.agg #[V 0,V 0,V 0,V 0,V 0]) 5 40 Tryz.underlying26 Hi.out.1 Hi.out.2.1 Hi.out.2.2.1 Hi.out.2.2.2 rfl (by decide) (.slice va n vc) n (flatI L) rfl HO.out ⟨g,0,none⟩ m m (flatI X) rfl (by rw[J4n,HX.out.2]) HX.out.1 (J8e X) (by omega) (by unfold maxLen;omega) (by omega) hlo w.heap.size rfl ?_;intro g3 cap3 w3 own3 gr3 hat3 hlt3;have HB3:Hid (Blk w3 Lb #[rv,cv,.slice va n vc] 109):=(gr3.block _ HB.out.lt (fun e=>by have:=Hne.out _ e.symm;omega)).trans HB.out;have c3:w3.cell? ⟨Lb,2,none⟩=some (.slice va n vc):=HB3.out.cell rfl;have f3:=HB3.out.frozen 2)
 go_end0;have hg:=(own3.lt g3 rfl).1;have hl:(L++X).length=n+m:=by rw[List.length_append,Hn.out,HX.out.2]
 refine⟨rfl,some g3,⟨hlt,some ⟨g3,0,none⟩,cap3,?_,?_,?_⟩,gr3.os,gr3.tape,gr3.output,?_,fun b hb h1 h2=>?_,?_⟩
 ·have:=HB3.out.put 2 (.slice (some ⟨g3,0,none⟩) (n+m) cap3)
  rw[hl];simpa using this
 ·rw[hl,J4m]
  exact World.ownsRow.kept own3 (J19 _ _ _ _) (.inr (by simp[Value.ownBlock];omega))
 ·rfl
 ·simpa[World.setCell]using gr3.size
 ·have h3:(w3.setCell ⟨Lb,2,none⟩ (.slice (some ⟨g3,0,none⟩) (n+m) cap3)).heap[b]?=w3.heap[b]?:=by
   simp[World.setCell,Array.getElem?_modify,h1.symm]
  rw[h3];exact gr3.block b hb (by rw[Hob.out];exact h2)
 ·rcases hat3 with e | e
  ·left;rw[<-Hob.out,e]
  ·exact .inr ⟨g3,rfl,by omega⟩

theorem J8h{Lb:Nat}{rv cv:Value}{lo:Nat}{L X:List Ins}{ob:Option Nat}{w w1:World}(h:Lw Lb rv cv lo L X ob w w1)(hlo:lo<=w.heap.size)(Y:List Ins)(m:Nat)(cs:Array Value)(hY:cs.toList=flatI Y)(hm:Y.length=m)(h1:1<=m)(h2:m<=2)(hL:(L++X).length<=9000):
  Calls Tryz.prog 117 #[.pointer (some ⟨Lb,0,none⟩),.slice (some ⟨w1.heap.size,0,none⟩) m m] (w1.alloc (.cells cs 41)) (Laid Lb rv cv lo L (X++Y) ob w):=by
 have m1:=(More.refl w1).alloc cs 41;exact(h.more m1).call fun o h3=>Jiy Lb rv cv lo _ Y o _ h3 (Nat.le_trans hlo (Nat.le_trans h.size m1.size)) _ m hm h1 h2 hL (NewsAt.of (Blk.last _ _ _) hY)

theorem J6v(n:Int)(w:World):Calls Tryz.prog 115 #[V n] w fun e w'=>e=.returned (.bool (decide (N14 n)))/\More w w':=by
 by_cases h1:-8192<=n
 ·have d1:decide (n ≥ -8192)=true:=by simp;omega
  have e:decide (N14 n)=decide (n<=8191):=by unfold N14;simp[h1]
  rw[e];go_enter Tryz.func115,Tryz.ntmps115;go_wp2;go_ret;exact⟨rfl,More.refl _⟩
 ·have d1:decide (n ≥ -8192)=false:=by simp;omega
  have e:decide (N14 n)=false:=by unfold N14;simp[h1]
  rw[e];go_enter Tryz.func115,Tryz.ntmps115;go_wp2;go_ret;exact⟨rfl,More.refl _⟩

theorem and13(n:Int):bits .and .i64 n 8191=n % 8192:=by
 have e:(BitVec.ofInt 64 n &&& BitVec.ofInt 64 8191).toNat=(n % ((2 ^ 64:Nat):Int)).toNat % 2 ^ 13:=by
  rw[BitVec.toNat_and,BitVec.toNat_ofInt,show(BitVec.ofInt 64 8191).toNat=2 ^ 13 - 1 by decide,Nat.and_two_pow_sub_one_eq_mod]
 show IntKind.i64.wrap ((BitVec.ofInt 64 n &&& BitVec.ofInt 64 8191).toNat:Nat)=_;rw[e,IntKind.wrap_i64];omega
theorem Jhh{n:Int}(h:N14 n)(a:Int)(f:Nat):J16 a f n=[⟨1,a,0,0,n⟩]:=by
 cases f with
 | zero=>rfl
 | succ f=>unfold J16;rw[if_pos h]

theorem J7l(Lb:Nat)(rv cv:Value)(lo:Nat)(a:Int)(f:Nat)(n:Int)(L:List Ins)(ob:Option Nat)(w:World)(h:Ld w Lb rv cv lo L ob)(hlo:lo<=w.heap.size)(hL:L.length+1+2*f<=9000)(h14:N14 n):
  Calls Tryz.prog 136 #[.pointer (some ⟨Lb,0,none⟩),V a,V n] w (Laid Lb rv cv lo L (J16 a f n) ob w):=by
 rw[Jhh h14]
 have CF:Hid (Calls Tryz.prog 115 #[V n] w fun e w'=>e=.returned (.bool true)/\More w w'):=by
  have:=J6v n w;rw[show decide (N14 n)=true by simp[h14]]at this;exact this
 have HK:Hid (∀w1:World,More w w1->Calls Tryz.prog 117 #[.pointer (some ⟨Lb,0,none⟩),.slice (some ⟨w1.heap.size,0,none⟩) 1 1] (w1.alloc (.cells #[V 1,V a,V 0,V 0,V n] 41)) (Laid Lb rv cv lo L [⟨1,a,0,0,n⟩] ob w)):=fun w1 m1=>
  J8h (h.start.more m1) hlo [⟨1,a,0,0,n⟩] 1 _ rfl rfl (by omega) (by omega) (by rw[List.append_nil];omega)
 clear h hL h14 hlo;go_enter Tryz.func136,Tryz.ntmps136;go_wp2_with (fail)
 refine CF.out.mono ?_;rintro e w1 ⟨rfl,m1⟩;have HK1:=HK.out w1 m1;go_wp2_with (fail)
 refine HK1.mono ?_;rintro e w3 ⟨rfl,hw3⟩;have Hw3:Hid (Lw Lb rv cv lo L [⟨1,a,0,0,n⟩] ob w w3):=hw3;clear hw3;go_wp2;go_end0;exact⟨rfl,Hw3.out⟩

theorem Jd1(Lb:Nat)(rv cv:Value)(lo:Nat)(a:Int):∀(f:Nat) (n:Int) (L:List Ins) (ob:Option Nat) (w:World),Ld w Lb rv cv lo L ob->lo<=w.heap.size->L.length+1+2*f<=9000->B64 n -> -lim f<=n->n < lim f->
  Calls Tryz.prog 136 #[.pointer (some ⟨Lb,0,none⟩),V a,V n] w (Laid Lb rv cv lo L (J16 a f n) ob w):=by
 intro f
 induction f with
 | zero=>
  intro n L ob w h hlo hL hn l1 l2;have h14:N14 n:=by simp only[lim]at l1 l2;unfold N14;omega
  exact J7l Lb rv cv lo a 0 n L ob w h hlo hL h14
 | succ f ih=>
  intro n L ob w h hlo hL hn l1 l2;by_cases h14:N14 n
  ·exact J7l Lb rv cv lo a (f+1) n L ob w h hlo hL h14
  ·have CF:Hid (Calls Tryz.prog 115 #[V n] w fun e w'=>e=.returned (.bool false)/\More w w'):=by
    have:=J6v n w;rw[show decide (N14 n)=false by simp[h14]]at this;exact this
   have eL:J16 a (f+1) n=J16 a f (n / 8192)++[⟨27,a,a,9,0⟩,⟨10,a,a,0,n % 8192⟩]:=by rw[J16,if_neg h14]
   rw[eL]
   have HR:Hid (∀w1:World,More w w1->Calls Tryz.prog 136 #[.pointer (some ⟨Lb,0,none⟩),V a,V (n / 8192)] w1 (Laid Lb rv cv lo L ([]++J16 a f (n / 8192)) ob w)):=fun w1 m1=>
    (h.start.more m1).call fun o h3=>ih _ _ _ _ h3 (Nat.le_trans hlo m1.size) (by rw[List.append_nil];omega) (by unfold B64 at *;omega) (by simp only[lim]at l1;omega) (by simp only[lim]at l2;omega)
   have HL2:Hid (∀w1:World,Lw Lb rv cv lo L (J16 a f (n / 8192)) ob w w1->Calls Tryz.prog 117 #[.pointer (some ⟨Lb,0,none⟩),.slice (some ⟨w1.heap.size,0,none⟩) 2 2] (w1.alloc (.cells #[V 27,V a,V a,V 9,V 0,V 10,V a,V a,V 0,V (n % 8192)] 41)) (Laid Lb rv cv lo L (J16 a f (n / 8192)++[⟨27,a,a,9,0⟩,⟨10,a,a,0,n % 8192⟩]) ob w)):=fun w1 h1=>
    J8h h1 hlo [⟨27,a,a,9,0⟩,⟨10,a,a,0,n % 8192⟩] 2 _ rfl rfl (by omega) (by omega) (by have:=(J8p a f (n / 8192)).2;rw[List.length_append];omega)
   clear h hL hlo l1 l2 ih eL h14;go_enter Tryz.func136,Tryz.ntmps136;go_wp2_with (fail)
   refine CF.out.mono ?_;rintro e w1 ⟨rfl,m1⟩;have HR1:=HR.out w1 m1;go_wp2_with (fail)
   refine HR1.mono ?_;rintro e w2 ⟨rfl,hw2⟩;have HL3:=HL2.out w2 hw2;go_wp2_with (fail)
   rw[and13];refine HL3.mono ?_;rintro e w3 ⟨rfl,hw3⟩;have Hw3:Hid (Lw Lb rv cv lo L (J16 a f (n / 8192)++[⟨27,a,a,9,0⟩,⟨10,a,a,0,n % 8192⟩]) ob w w3):=hw3;clear hw3 hw2;go_wp2;go_end0;exact⟨rfl,Hw3.out⟩

theorem Jcu(Lb:Nat)(rv cv:Value)(lo:Nat)(a n:Int)(L:List Ins)(ob:Option Nat)(w:World)(h:Ld w Lb rv cv lo L ob)(hlo:lo<=w.heap.size)(hL:L.length<=8900)(hn:B64 n):
  Calls Tryz.prog 116 #[.pointer (some ⟨Lb,0,none⟩),V a,V n] w (Laid Lb rv cv lo L (numL a n) ob w):=by
 have HK:Hid (Calls Tryz.prog 117 #[.pointer (some ⟨Lb,0,none⟩),.slice (some ⟨w.heap.size,0,none⟩) 1 1] (w.alloc (.cells #[V 1,V 9,V 0,V 0,V 13] 41)) (Laid Lb rv cv lo L [⟨1,9,0,0,13⟩] ob w)):=
  J8h h.start hlo [⟨1,9,0,0,13⟩] 1 _ rfl rfl (by omega) (by omega) (by rw[List.append_nil];omega)
 have HP:Hid (∀w1:World,Lw Lb rv cv lo L [⟨1,9,0,0,13⟩] ob w w1->Calls Tryz.prog 136 #[.pointer (some ⟨Lb,0,none⟩),V a,V n] w1 (Laid Lb rv cv lo L ([⟨1,9,0,0,13⟩]++J16 a 4 n) ob w)):=fun w1 h1=>
  h1.call fun o h3=>Jd1 Lb rv cv lo a 4 n _ o w1 h3 (Nat.le_trans hlo h1.size) (by rw[List.length_append];simp;omega) hn (lim4 hn).1 (lim4 hn).2
 clear h hL hn hlo;go_enter Tryz.func116,Tryz.ntmps116;go_wp2_with (fail)
 refine HK.out.mono ?_;rintro e w1 ⟨rfl,h1⟩;have HP1:=HP.out w1 h1;clear h1;go_wp2_with (fail)
 refine HP1.mono ?_;rintro e w2 ⟨rfl,h2⟩;have H2:Hid (Lw Lb rv cv lo L (numL a n) ob w w2):=h2;clear h2;go_wp2;go_end0;exact⟨rfl,H2.out⟩

theorem J9g(Lb:Nat)(rv cv:Value)(lo:Nat)(i:Ins)(L:List Ins)(ob:Option Nat)(w:World)(h:Ld w Lb rv cv lo L ob)(hlo:lo<=w.heap.size)(hL:L.length<=8800)(hn:B64 i.n):
  Calls Tryz.prog 84 #[.pointer (some ⟨Lb,0,none⟩),.agg #[V i.op,V i.a,V i.b,V i.c,V i.n]] w (Laid Lb rv cv lo L (fitL i) ob w):=by
 obtain⟨op,a,b,c,n⟩:=i;dsimp only at hn |-;have HF:Hid (∀w1:World,Calls Tryz.prog 115 #[V n] w1 fun e w'=>e=.returned (.bool (decide (N14 n)))/\More w1 w'):=fun w1=>J6v n w1
 have HN:Hid (∀a w1,More w w1->Calls Tryz.prog 116 #[.pointer (some ⟨Lb,0,none⟩),V a,V n] w1 (Laid Lb rv cv lo L (numL a n) ob w1)):=fun a w1 m1=>Jcu Lb rv cv lo a n _ ob w1 (h.more m1) (Nat.le_trans hlo m1.size) (by omega) hn
 have Hob:Hid (∀x,ob=some x->x < w.heap.size):=fun x hx=>(h.lo x hx).2
 have hLb:Lb < w.heap.size:=by have:=h.1;omega
 obtain⟨W,HW⟩:∃W:World,Hid (W=w.alloc (.cells #[V op,V a,V b,V c,V n] 41)):=⟨_,rfl⟩;have HmW:Hid (More w W):=HW.out▸(More.refl _).alloc _ _;have HbW:Hid (Blk W w.heap.size #[V op,V a,V b,V c,V n] 41):=HW.out▸Blk.last _ _ _
 have HL1:Hid (∀w1:World,More w w1->Calls Tryz.prog 117 #[.pointer (some ⟨Lb,0,none⟩),.slice (some ⟨w1.heap.size,0,none⟩) 1 1] (w1.alloc (.cells #[V op,V a,V b,V c,V n] 41)) (Laid Lb rv cv lo L [⟨op,a,b,c,n⟩] ob w)):=fun w1 m1=>
  J8h (h.start.more m1) hlo [⟨op,a,b,c,n⟩] 1 _ rfl rfl (by omega) (by omega) (by rw[List.append_nil];omega)
 have HL2:Hid (∀w1:World,Lw Lb rv cv lo L (numL 8 n) ob w w1->Calls Tryz.prog 117 #[.pointer (some ⟨Lb,0,none⟩),.slice (some ⟨w1.heap.size,0,none⟩) 1 1] (w1.alloc (.cells #[V 21,V a,V b,V 8,V 0] 41)) (Laid Lb rv cv lo L (numL 8 n++[⟨21,a,b,8,0⟩]) ob w)):=fun w1 h1=>
  J8h h1 hlo [⟨21,a,b,8,0⟩] 1 _ rfl rfl (by omega) (by omega) (by have:=(Jei 8 n).2;rw[List.length_append];omega)
 have HB:Hid (∀w1,More W w1->Blk w1 w.heap.size #[V op,V a,V b,V c,V n] 41):=fun w1 m1=>HbW.out.more m1
 have HB2:Hid (∀w1 w2,More W w1->Lw Lb rv cv lo L (numL 8 n) ob w1 w2->Blk w2 w.heap.size #[V op,V a,V b,V c,V n] 41/\Lw Lb rv cv lo L (numL 8 n) ob w w2):=fun w1 w2 m1 ⟨o,h1,k⟩=>
  ⟨k.blk (HbW.out.more m1) (by omega) (by intro q;have:=Hob.out _ q.symm;omega),o,h1,(Kp.of (HmW.out.trans m1)).trans k⟩
 have HK:Hid (∀a w1 w2,More W w1->Lw Lb rv cv lo L (numL a n) ob w1 w2->Lw Lb rv cv lo L (numL a n) ob w w2):=fun a w1 w2 m1 ⟨o,h1,k⟩=>⟨o,h1,(Kp.of (HmW.out.trans m1)).trans k⟩
 clear h hlo hL hLb;by_cases h1:op=1
 ·subst h1
  have a0:W.cell? ⟨w.heap.size,0,none⟩=some (V 1):=HbW.out.cell rfl;have a1:W.cell? ⟨w.heap.size,1,none⟩=some (V a):=HbW.out.cell rfl;have a2:W.cell? ⟨w.heap.size,2,none⟩=some (V b):=HbW.out.cell rfl;have a3:W.cell? ⟨w.heap.size,3,none⟩=some (V c):=HbW.out.cell rfl;have a4:W.cell? ⟨w.heap.size,4,none⟩=some (V n):=HbW.out.cell rfl;by_cases h14:N14 n
  ·rw[show fitL ⟨1,a,b,c,n⟩=[⟨1,a,b,c,n⟩] by unfold fitL;rw[if_pos h14]]
   rw[show decide (N14 n)=true by simp[h14]]at HF;clear h14;go_enter Tryz.func84,Tryz.ntmps84;go_wp2_with (fail)
   rw[<-HW.out];refine(HF.out W).mono ?_;rintro e w1 ⟨rfl,m1⟩;have Hb1:Hid (Blk w1 w.heap.size #[V 1,V a,V b,V c,V n] 41):=HB.out w1 m1;have c0:w1.cell? ⟨w.heap.size,0,none⟩=some (V 1):=Hb1.out.cell rfl;have c1:w1.cell? ⟨w.heap.size,1,none⟩=some (V a):=Hb1.out.cell rfl;have c2:w1.cell? ⟨w.heap.size,2,none⟩=some (V b):=Hb1.out.cell rfl;have c3:w1.cell? ⟨w.heap.size,3,none⟩=some (V c):=Hb1.out.cell rfl;have c4:w1.cell? ⟨w.heap.size,4,none⟩=some (V n):=Hb1.out.cell rfl;have HL3:=HL1.out w1 (HmW.out.trans m1);go_wp2_with (fail)
   refine HL3.mono ?_;rintro e w3 ⟨rfl,hw3⟩;have Hw3:Hid (Lw Lb rv cv lo L [⟨1,a,b,c,n⟩] ob w w3):=hw3;clear hw3;go_wp2;go_end0;exact⟨rfl,Hw3.out⟩
  ·rw[show fitL ⟨1,a,b,c,n⟩=numL a n by unfold fitL;rw[if_neg h14];rfl]
   rw[show decide (N14 n)=false by simp[h14]]at HF;clear h14;go_enter Tryz.func84,Tryz.ntmps84;go_wp2_with (fail)
   rw[<-HW.out];refine(HF.out W).mono ?_;rintro e w1 ⟨rfl,m1⟩;have Hb1:Hid (Blk w1 w.heap.size #[V 1,V a,V b,V c,V n] 41):=HB.out w1 m1;have c0:w1.cell? ⟨w.heap.size,0,none⟩=some (V 1):=Hb1.out.cell rfl;have c1:w1.cell? ⟨w.heap.size,1,none⟩=some (V a):=Hb1.out.cell rfl;have c2:w1.cell? ⟨w.heap.size,2,none⟩=some (V b):=Hb1.out.cell rfl;have c3:w1.cell? ⟨w.heap.size,3,none⟩=some (V c):=Hb1.out.cell rfl;have c4:w1.cell? ⟨w.heap.size,4,none⟩=some (V n):=Hb1.out.cell rfl;have HL3:=HN.out a w1 (HmW.out.trans m1);go_wp2_with (fail)
   refine HL3.mono ?_;rintro e w3 ⟨rfl,hw3⟩;have Hw3:Hid (Lw Lb rv cv lo L (numL a n) ob w w3):=HK.out a w1 w3 m1 hw3;clear hw3;go_wp2;go_end0;exact⟨rfl,Hw3.out⟩
 have e1:(op==1)=false:=by simp[h1]
 by_cases h10:op=10
 ·subst h10
  have a0:W.cell? ⟨w.heap.size,0,none⟩=some (V 10):=HbW.out.cell rfl;have a1:W.cell? ⟨w.heap.size,1,none⟩=some (V a):=HbW.out.cell rfl;have a2:W.cell? ⟨w.heap.size,2,none⟩=some (V b):=HbW.out.cell rfl;have a3:W.cell? ⟨w.heap.size,3,none⟩=some (V c):=HbW.out.cell rfl;have a4:W.cell? ⟨w.heap.size,4,none⟩=some (V n):=HbW.out.cell rfl;by_cases h14:N14 n
  ·rw[show fitL ⟨10,a,b,c,n⟩=[⟨10,a,b,c,n⟩] by unfold fitL;rw[if_pos h14]]
   rw[show decide (N14 n)=true by simp[h14]]at HF;clear h14;go_enter Tryz.func84,Tryz.ntmps84;go_wp2_with (fail)
   rw[<-HW.out];refine(HF.out W).mono ?_;rintro e w1 ⟨rfl,m1⟩;have Hb1:Hid (Blk w1 w.heap.size #[V 10,V a,V b,V c,V n] 41):=HB.out w1 m1;have c0:w1.cell? ⟨w.heap.size,0,none⟩=some (V 10):=Hb1.out.cell rfl;have c1:w1.cell? ⟨w.heap.size,1,none⟩=some (V a):=Hb1.out.cell rfl;have c2:w1.cell? ⟨w.heap.size,2,none⟩=some (V b):=Hb1.out.cell rfl;have c3:w1.cell? ⟨w.heap.size,3,none⟩=some (V c):=Hb1.out.cell rfl;have c4:w1.cell? ⟨w.heap.size,4,none⟩=some (V n):=Hb1.out.cell rfl;have HL3:=HL1.out w1 (HmW.out.trans m1);go_wp2_with (fail)
   refine HL3.mono ?_;rintro e w3 ⟨rfl,hw3⟩;have Hw3:Hid (Lw Lb rv cv lo L [⟨10,a,b,c,n⟩] ob w w3):=hw3;clear hw3;go_wp2;go_end0;exact⟨rfl,Hw3.out⟩
  ·rw[show fitL ⟨10,a,b,c,n⟩=numL 8 n++[⟨21,a,b,8,0⟩] by unfold fitL;rw[if_neg h14];rfl]
   rw[show decide (N14 n)=false by simp[h14]]at HF;clear h14;go_enter Tryz.func84,Tryz.ntmps84;go_wp2_with (fail)
   rw[<-HW.out];refine(HF.out W).mono ?_;rintro e w1 ⟨rfl,m1⟩;have Hb1:Hid (Blk w1 w.heap.size #[V 10,V a,V b,V c,V n] 41):=HB.out w1 m1;have c0:w1.cell? ⟨w.heap.size,0,none⟩=some (V 10):=Hb1.out.cell rfl;have c1:w1.cell? ⟨w.heap.size,1,none⟩=some (V a):=Hb1.out.cell rfl;have c2:w1.cell? ⟨w.heap.size,2,none⟩=some (V b):=Hb1.out.cell rfl;have c3:w1.cell? ⟨w.heap.size,3,none⟩=some (V c):=Hb1.out.cell rfl;have c4:w1.cell? ⟨w.heap.size,4,none⟩=some (V n):=Hb1.out.cell rfl;have HL4:=HN.out 8 w1 (HmW.out.trans m1);go_wp2_with (fail)
   refine HL4.mono ?_;rintro e w2 ⟨rfl,hw2⟩;obtain⟨hb2,hw2⟩:=HB2.out w1 w2 m1 hw2;have Hb2:Hid (Blk w2 w.heap.size #[V 10,V a,V b,V c,V n] 41):=hb2;have HL3:=HL2.out w2 hw2;clear hb2 hw2 c0 c1 c2 c3 c4;have d0:w2.cell? ⟨w.heap.size,0,none⟩=some (V 10):=Hb2.out.cell rfl;have d1:w2.cell? ⟨w.heap.size,1,none⟩=some (V a):=Hb2.out.cell rfl;have d2:w2.cell? ⟨w.heap.size,2,none⟩=some (V b):=Hb2.out.cell rfl;have d3:w2.cell? ⟨w.heap.size,3,none⟩=some (V c):=Hb2.out.cell rfl;have d4:w2.cell? ⟨w.heap.size,4,none⟩=some (V n):=Hb2.out.cell rfl;go_wp2_with (fail)
   refine HL3.mono ?_;rintro e w3 ⟨rfl,hw3⟩;have Hw3:Hid (Lw Lb rv cv lo L (numL 8 n++[⟨21,a,b,8,0⟩]) ob w w3):=hw3;clear hw3;go_wp2;go_end0;exact⟨rfl,Hw3.out⟩
 ·have e10:(op==10)=false:=by simp[h10]
  rw[J24 h1 h10];clear h1 h10;have a0:W.cell? ⟨w.heap.size,0,none⟩=some (V op):=HbW.out.cell rfl;have a1:W.cell? ⟨w.heap.size,1,none⟩=some (V a):=HbW.out.cell rfl;have a2:W.cell? ⟨w.heap.size,2,none⟩=some (V b):=HbW.out.cell rfl;have a3:W.cell? ⟨w.heap.size,3,none⟩=some (V c):=HbW.out.cell rfl;have a4:W.cell? ⟨w.heap.size,4,none⟩=some (V n):=HbW.out.cell rfl;have HL3:=HL1.out W HmW.out;rw[show W.heap.size=w.heap.size+1 by rw[HW.out];simp]at HL3;clear a0 a1 a2 a3 a4;go_enter Tryz.func84,Tryz.ntmps84;go_wp2_with (fail)
  rw[<-HW.out];refine HL3.mono ?_;rintro e w3 ⟨rfl,hw3⟩;have Hw3:Hid (Lw Lb rv cv lo L [⟨op,a,b,c,n⟩] ob w w3):=hw3;clear hw3;go_wp2;go_end0;exact⟨rfl,Hw3.out⟩
structure F1(w0 w:World)(q:Prg)(Lb:Nat)(rv cv:Value)(k:Nat)(ob:Option Nat)(wr:World):Prop where
 ld:Ld wr Lb rv cv (w.heap.size+2) (codeG (fitK q) k) ob
 res:Blk wr w.heap.size #[.slice none 0 0,.slice none 0 0] 28
 room:∀j,j < q.cl->∃v,Wr wr (w.heap.size+1) j v
 done:∀j,j < k->wr.cell? ⟨w.heap.size+1,j,none⟩=some (V (J0g (fitK q) j:Nat))
 more:More w0 wr

theorem F1.start{w0 w:World}{q:Prg}{Lb:Nat}{rv cv:Value}(m:More w0 w)(hB:Blk w Lb #[rv,cv,.slice none 0 0] 109):
  F1 w0 w q Lb rv cv 0 none ((w.alloc (.cells #[.slice none 0 0,.slice none 0 0] 28)).alloc (.cells (madeCells #[V 0] q.cl) 2)):=by
 have hb:Blk ((w.alloc (.cells #[.slice none 0 0,.slice none 0 0] 28)).alloc (.cells (madeCells #[V 0] q.cl) 2)) (w.heap.size+1) (madeCells #[V 0] q.cl) 2:=by
  simpa using Blk.last (w.alloc (.cells #[.slice none 0 0,.slice none 0 0] 28)) (madeCells #[V 0] q.cl) 2
 have m2:=((More.refl w).alloc #[.slice none 0 0,.slice none 0 0] 28).alloc (madeCells #[V 0] q.cl) 2;exact⟨⟨by have:=hB.lt;omega,none,0,hB.more m2,World.ownsRow_nil _ _ _ _,rfl⟩,(Blk.last _ _ _).more ((More.refl _).alloc _ _),fun j hj=>⟨_,hb.cell (J7z _ _ _ hj),hb.frozen _⟩,fun j hj=>absurd hj (Nat.not_lt_zero _),m.trans m2⟩

theorem F1.mid{w0 w:World}{q:Prg}{Lb:Nat}{rv cv:Value}{k:Nat}{ob:Option Nat}{wr w1:World}(h:F1 w0 w q Lb rv cv k ob wr)(hL:Lb < w.heap.size){v:Value}
  (m1:More (wr.setCell ⟨w.heap.size+1,k,none⟩ v) w1):Ld w1 Lb rv cv (w.heap.size+2) (codeG (fitK q) k) ob:=by
 have g1:wr.grownBy w1 (some (w.heap.size+1)):=Jb1 (J0s (J0u _ _) _ _) m1;obtain⟨q0,va,vc,q1,q2,q3⟩:=h.ld;refine⟨q0,va,vc,(g1.block _ q1.lt (by simp;omega)).trans q1,World.ownsRow.kept q2 g1 ?_,q3⟩;cases hv:(Value.slice va (codeG (fitK q) k).length vc).ownBlock with
 | none=>left;rfl
 | some b=>right;intro e;have h1:=(q2.lt b hv).1;have:=Option.some.inj e;omega
theorem F1.step{w0 w:World}{q:Prg}{Lb:Nat}{rv cv:Value}{k:Nat}{ob:Option Nat}{wr w1 w2:World}(h:F1 w0 w q Lb rv cv k ob wr)(h0:w0.heap.size<=Lb)(h00:w0.heap.size<=w.heap.size)(hL:Lb < w.heap.size)(hk:k < q.cl)
  (m1:More (wr.setCell ⟨w.heap.size+1,k,none⟩ (V (J0g (fitK q) k:Nat))) w1) (hl:Lw Lb rv cv (w.heap.size+2) (codeG (fitK q) k) (fitL (q.ins k)) ob w1 w2):∃ob',F1 w0 w q Lb rv cv (k+1) ob' w2:=by
 have hb:=h.ld.lo;have g1:wr.grownBy w1 (some (w.heap.size+1)):=Jb1 (J0s (J0u _ _) _ _) m1;obtain⟨ob',h1,k2⟩:=hl;have nb:∀b,b < w.heap.size+2->some b≠ob:=fun b hb2 e=>by have:=(hb b e.symm).1;omega
 have r1:∀j,j < q.cl->∃v,Wr w1 (w.heap.size+1) j v:=fun j hj=>by
  obtain⟨v,hv⟩:=h.room j hj;by_cases c:k=j
  ·subst c;exact⟨_,(hv.same _).kept (m1.grow none) (by simp)⟩
  ·exact⟨v,(hv.other _ _ _ (.inr c)).kept (m1.grow none) (by simp)⟩
 have d1:∀j,j < k+1->w1.cell? ⟨w.heap.size+1,j,none⟩=some (V (J0g (fitK q) j:Nat)):=fun j hj=>by
  obtain⟨v,hv⟩:=h.room j (by omega);refine m1.cell ?_;by_cases c:k=j
  ·subst c;exact(hv.same _).1
  ·rw[World.cell?_setCell_other _ _ _ _ (by intro e;simp only[Addr.mk.injEq]at e;omega)]
   exact h.done j (by omega)
 have g2:∀b,b < w1.heap.size->b≠Lb->b < w.heap.size+2->w2.heap[b]?=w1.heap[b]?:=fun b h1 h2 h3=>k2.block b h1 h2 (nb b h3)
 have hs:w.heap.size+1 < w1.heap.size:=by obtain⟨v,hv⟩:=r1 k hk;exact J0q hv.1
 refine⟨ob',h1,?_,fun j hj=>?_,fun j hj=>?_,?_⟩
 ·have h2:Blk w1 w.heap.size #[.slice none 0 0,.slice none 0 0] 28:=(g1.block _ h.res.lt (by simp)).trans h.res
  exact k2.blk h2 (by omega) (nb _ (by omega))
 ·obtain⟨v,hv⟩:=r1 j hj
  have e:=g2 (w.heap.size+1) hs (by omega) (by omega);exact⟨v,by rw[World.cell?_of_block (a:=⟨w.heap.size+1,j,none⟩) e];exact hv.1,by rw[World.frozen?_of_block (a:=⟨w.heap.size+1,j,none⟩) e];exact hv.2⟩
 ·rw[World.cell?_of_block (a:=⟨w.heap.size+1,j,none⟩) (g2 (w.heap.size+1) hs (by omega) (by omega))]
  exact d1 j hj
 ·exact k2.more ((h.more.setCell (by show w0.heap.size<=w.heap.size+1;omega) _).trans m1) h0 (fun b e=>by have:=(hb b e).1;omega)

theorem J8b{q:Prg}(hq:q.Ok 8000 10):∀n,n<=q.cl->∀i ∈ codeG (fitK q) n,i.op=7\/i.op=8->0<=i.n/\i.n < q.cl
 | 0,_,i,hi,_=>by simp[codeG]at hi
 | n+1,hn,i,hi,h=>by
  rcases List.mem_append.1 hi with hi | hi
  ·exact J8b hq n (by omega) i hi h
  ·have hI:=hq.2.2.2 n (by omega)
   by_cases c:(q.ins n).op=1\/(q.ins n).op=10
   ·have hs:StrI (q.ins n):=by
     unfold InsOk Reg at hI;rcases c with c | c
     ·simp[c]at hI;exact⟨by omega,by omega,by omega,by omega⟩
     ·simp[c]at hI;exact⟨by omega,by omega,by omega,by omega⟩
    exact absurd h (str78 (J6a hs i hi))
   ·have hi:i ∈ fitL (q.ins n):=hi
    rw[J24 (by omega) (by omega)]at hi;obtain rfl:i=q.ins n:=by simpa using hi
    unfold InsOk at hI;rcases h with h | h
    ·simp[h]at hI;exact hI.2.2.2
    ·simp[h]at hI;exact hI.2.2.2
theorem J60(q:Prg):∀n,n<=J0g (fitK q) n/\J0g (fitK q) n<=11*n
 | 0=>⟨Nat.le_refl _,Nat.le_refl _⟩
 | n+1=>by
  have:=J60 q n;have:=Jaw (q.ins n);rw[J27];omega

theorem Jh5(q:Prg)(l:Loc)(w0 w:World)(Lb:Nat)(m0:More w0 w)(h0:w0.heap.size<=Lb)(hp:PIn w0 q l)(hq:q.Ok 8000 10)(h6:q.cl<=600)(hB:Blk w Lb #[.slice l.ra q.rl l.rc,.slice l.ca q.cl l.cc,.slice none 0 0] 109)(hn:∀k,k < q.cl->B64 (q.ins k).n):
  Calls Tryz.prog 42 #[.pointer (some ⟨Lb,0,none⟩)] w fun e w'=>∃lf:Loc,e=.returned (prgV (fitP q) lf)/\PIn w' (fitP q) lf/\More w0 w':=by
 suffices hP:∀P:Ending->World->Prop,(∀gc cap w',PIn w' (fitP q) ⟨l.ra,l.rb,l.ro,l.rc,some ⟨gc,0,none⟩,gc,0,cap⟩->More w0 w'->P (.returned (.agg #[.slice l.ra q.rl l.rc,.slice (some ⟨gc,0,none⟩) (J0g (fitK q) q.cl) cap])) w')->Calls Tryz.prog 42 #[.pointer (some ⟨Lb,0,none⟩)] w P from hP _ (fun gc cap w' h1 h2=>⟨_,rfl,h1,h2⟩)
 intro P hP0;have Hl:Hid (Lb < w.heap.size/\w0.heap.size<=Lb/\w0.heap.size<=w.heap.size):=⟨hB.lt,h0,m0.size⟩
 have Hfin:Hid (∀gc cap w' u,CodeAt w' gc 0 (J0g (fitK q) q.cl) (hardG (fitK q) q.cl)->More w0 w'->w.heap.size < gc->u=(w'.setCell ⟨w.heap.size,0,none⟩ (.slice l.ra q.rl l.rc)).setCell ⟨w.heap.size,1,none⟩ (.slice (some ⟨gc,0,none⟩) (J0g (fitK q) q.cl) cap)->∀u',More u u'->P (.returned (.agg #[.slice l.ra q.rl l.rc,.slice (some ⟨gc,0,none⟩) (J0g (fitK q) q.cl) cap])) u'):=by
  intro gc cap w' u hc m hg e u' mu;have h2:=Hl.out
  have mm:More w0 u':=by
   refine More.trans ?_ mu;rw[e];exact(m.setCell (by show w0.heap.size<=w.heap.size;omega) _).setCell (by show w0.heap.size<=w.heap.size;omega) _
  refine hP0 gc cap u' ⟨hp.hr,fun _=>rfl,hp.regs.more mm,?_⟩ mm;refine CodeAt.more mu ?_;rw[e];exact(hc.other (b':=w.heap.size) (by omega) 0 _).other (b':=w.heap.size) (by omega) 1 _
 have hcl0:=hq.2.1;have hca:=hp.hc (by omega);rw[hca]at hB;obtain⟨ra,Hra⟩:∃x,Hid (l.ra=x):=⟨_,rfl⟩;obtain⟨rl,Hrl⟩:∃x,Hid (q.rl=x):=⟨_,rfl⟩;obtain⟨rc,Hrc⟩:∃x,Hid (l.rc=x):=⟨_,rfl⟩;obtain⟨cb,Hcb⟩:∃x,Hid (l.cb=x):=⟨_,rfl⟩;obtain⟨co,Hco⟩:∃x,Hid (l.co=x):=⟨_,rfl⟩;obtain⟨cc,Hcc⟩:∃x,Hid (l.cc=x):=⟨_,rfl⟩;obtain⟨cl,Hcl⟩:∃x,Hid (q.cl=x):=⟨_,rfl⟩;rw[Hra.out,Hrl.out,Hrc.out]at Hfin;rw[Hra.out,Hrl.out,Hrc.out,Hcb.out,Hco.out,Hcc.out,Hcl.out]at hB;rw[Hcl.out]at hcl0 h6
 have HC:Hid (∀w1:World,More w0 w1->CodeAt w1 cb co cl q.ins):=fun w1 m1=>by
  have:=hp.code.more m1;rw[Hcb.out,Hco.out,Hcl.out]at this;exact this
 have Hn:Hid (∀k,k < cl->B64 (q.ins k).n):=fun k hk=>hn k (by rw[Hcl.out];exact hk)
 have Hst:Hid (∀k,k<=cl->J0g (fitK q) k<=6600):=fun k hk=>by have:=J60 q k;omega
 have HS0:Hid (F1 w0 w q Lb (.slice ra rl rc) (.slice (some ⟨cb,co,none⟩) cl cc) 0 none ((w.alloc (.cells #[.slice none 0 0,.slice none 0 0] 28)).alloc (.cells (madeCells #[V 0] cl) 2))):=by
  have:=F1.start (q:=q) m0 hB;rw[Hcl.out]at this;exact this
 have Hq:Hid (q.Ok 8000 10):=hq;have b1:w.cell? ⟨Lb,1,none⟩=some (.slice (some ⟨cb,co,none⟩) cl cc):=hB.cell rfl;have hLb:=hB.lt;have ne0:¬w.heap.size=Lb:=by omega
 have ne00:¬Lb=w.heap.size:=by omega
 have ne01:¬Lb=w.heap.size+1:=by omega
 have HB:Hid (Blk w Lb #[.slice ra rl rc,.slice (some ⟨cb,co,none⟩) cl cc,.slice none 0 0] 109):=hB;have hmk:=run_make_row' (P:=Tryz.prog) 35 2 (V 0) 8 Tryz.underlying35 info2 rfl .i64 .i64 cl (by omega) (by omega);clear hP0 hp hq hca hB hn;go_enter Tryz.func42,Tryz.ntmps42;go_wp2_with (fail)
 clear hmk;go_loopg [21] cl (fun g iv wr=>∃(k:Nat) (ob:Option Nat),k+g=cl/\iv=V k/\Hid (F1 w0 w q Lb (.slice ra rl rc) (.slice (some ⟨cb,co,none⟩) cl cc) k ob wr))
 case atStart=>exact⟨0,none,by omega,rfl,HS0.out⟩
 case round=>
  obtain⟨k,ob,hkg,rfl,Hr⟩:=hrel;clear HS0;cases gk with
  | zero=>
   obtain rfl:k=cl:=by omega
   have hn0:1<=J0g (fitK q) k:=by have:=J60 q k;omega
   have hn1:=Hst.out k (Nat.le_refl _);obtain⟨hl1,va,vc,hB1,hO1,_⟩:=Hr.out.ld;obtain⟨gc,cap,hv,_,_⟩:=hO1.form hn0;cases hv
   have H20:Hid (H2 (fitK q) q.cl w0 [(Lb,#[.slice ra rl rc,.slice (some ⟨cb,co,none⟩) k cc,.slice (some ⟨gc,0,none⟩) (J0g (fitK q) k) vc],109),(w.heap.size,#[.slice none 0 0,.slice none 0 0],28)] (w.heap.size+1) gc 0 wr):=by
    have h1:=Hr.out;have h2:=Hl.out;have o1:wr.ownsRow (w.heap.size+2) 41 5 (.slice (some ⟨gc,0,none⟩) (J0g (fitK q) k) vc) (J0g (fitK q) k) (flatI (codeG (fitK q) k)):=hO1;rw[<-Hcl.out]at h1 o1 hB1 |-;refine H2.start o1 h1.done (fun x hx=>?_) (by omega) h1.more;simp only[List.mem_cons,List.not_mem_nil,or_false]at hx;rcases hx with rfl | rfl
    ·exact⟨hB1,by dsimp only;omega⟩
    ·exact⟨h1.res,by dsimp only;omega⟩
   have Hpl:Hid (∀j,j < J0g (fitK q) k->(mixG (fitK q) q.cl j j).op=7\/(mixG (fitK q) q.cl j j).op=8->0<=(mixG (fitK q) q.cl j j).n/\(mixG (fitK q) q.cl j j).n < k):=fun j hj h=>by
    rw[J8l]at h |-;have:=J8b Hq.out q.cl (Nat.le_refl _) _ (List.mem_of_getElem? (Je0 (L:=codeG (fitK q) q.cl) (j:=j) (by rw[Hcl.out];exact hj) ⟨0,0,0,0,0⟩)) h;rw[Hcl.out]at this |-;exact this
   have hgc:w.heap.size+2<=gc:=(hO1.lt gc rfl).1
   have Hend:Hid (∀bs w' u,H2 (fitK q) q.cl w0 bs (w.heap.size+1) gc (J0g (fitK q) k) w'->u=(w'.setCell ⟨w.heap.size,0,none⟩ (.slice ra rl rc)).setCell ⟨w.heap.size,1,none⟩ (.slice (some ⟨gc,0,none⟩) (J0g (fitK q) k) vc)->∀u',More u u'->P (.returned (.agg #[.slice ra rl rc,.slice (some ⟨gc,0,none⟩) (J0g (fitK q) k) vc])) u'):=fun bs w' u h2 hu=>by
    rw[<-Hcl.out]at h2 hu |-;exact Hfin.out gc vc w' u h2.end_ h2.more (by omega) hu
   clear hO1 hB1 HC Hfin;obtain⟨sn,Hsn⟩:∃x,Hid (J0g (fitK q) k=x):=⟨_,rfl⟩;rw[Hsn.out]at hn0 hn1 Hpl Hend H20;have Hcd:Hid (∀bs j wr,H2 (fitK q) q.cl w0 bs (w.heap.size+1) gc j wr->∀i,i < sn->InsWr wr gc i (mixG (fitK q) q.cl j i)):=fun bs j wr h2 i hi=>h2.code i (by rw[Hcl.out,Hsn.out];exact hi)
   have Hsd:Hid (∀bs j wr,H2 (fitK q) q.cl w0 bs (w.heap.size+1) gc j wr->∀i,i < k->wr.cell? ⟨w.heap.size+1,i,none⟩=some (V (J0g (fitK q) i:Nat))):=fun bs j wr h2 i hi=>h2.starts i (by rw[Hcl.out];exact hi)
   obtain⟨bs,Hbs⟩:∃x:List (Nat × Array Value × TypeId),Hid ([(Lb,#[.slice ra rl rc,.slice (some ⟨cb,co,none⟩) k cc,.slice (some ⟨gc,0,none⟩) sn vc],109),(w.heap.size,#[.slice none 0 0,.slice none 0 0],28)]=x):=⟨_,rfl⟩;rw[Hbs.out]at H20;have HbL:Hid (∀j wr,H2 (fitK q) q.cl w0 bs (w.heap.size+1) gc j wr->Blk wr Lb #[.slice ra rl rc,.slice (some ⟨cb,co,none⟩) k cc,.slice (some ⟨gc,0,none⟩) sn vc] 109):=fun j wr h2=>(h2.box _ (by rw[<-Hbs.out];exact List.mem_cons_self)).1
   have HbR:Hid (∀j wr,H2 (fitK q) q.cl w0 bs (w.heap.size+1) gc j wr->Blk wr w.heap.size #[.slice none 0 0,.slice none 0 0] 28):=fun j wr h2=>(h2.box _ (by rw[<-Hbs.out];exact List.mem_cons_of_mem _ List.mem_cons_self)).1
   have b2:wr.cell? ⟨Lb,2,none⟩=some (.slice (some ⟨gc,0,none⟩) sn vc):=(HbL.out 0 wr H20.out).cell rfl;obtain⟨wm,rfl⟩:∃wm,wm=wr:=⟨wr,rfl⟩;go_wp2_with (fail)
   clear b2;go_loopg [43] sn (fun g2 iv wr2=>∃j:Nat,j+g2=sn/\iv=V j/\Hid (H2 (fitK q) q.cl w0 bs (w.heap.size+1) gc j wr2))
   case atStart=>exact⟨0,by omega,rfl,H20.out⟩
   case round=>
    obtain⟨j,hjg,rfl,Hr2⟩:=hrel;clear H20;have HbLr:=HbL.out j wr Hr2.out;have hzL:=HbLr.lt;have b2:wr.cell? ⟨Lb,2,none⟩=some (.slice (some ⟨gc,0,none⟩) sn vc):=HbLr.cell rfl;cases gk with
    | zero=>
     obtain rfl:j=sn:=by omega
     obtain⟨wd,Hwd⟩:∃w_:World,Hid (w_=wr.drew):=⟨_,rfl⟩;have Hmd:Hid (More wr wd):=Hwd.out▸(More.refl wr).drew;obtain⟨S,HS⟩:∃S:World->Prop,Hid (∀w',S w'↔Blk w' Lb #[.slice ra rl rc,.slice (some ⟨cb,co,none⟩) k cc,.slice (some ⟨gc,0,none⟩) j vc] 109):=⟨_,fun _=>Iff.rfl⟩;have HS1:S wd:=(HS.out _).2 (HbLr.more Hmd.out);have HS0:S wr.drew:=Hwd.out▸HS1;have k0:∀i:{ w' // S w' },i.val.cell? ⟨Lb,0,none⟩=some (.slice ra rl rc):=fun i=>((HS.out _).1 i.property).cell rfl
     have k2:∀i:{ w' // S w' },i.val.cell? ⟨Lb,2,none⟩=some (.slice (some ⟨gc,0,none⟩) j vc):=fun i=>((HS.out _).1 i.property).cell rfl
     have hne:Nonempty { w' // S w' }:=⟨⟨_,HS0⟩⟩;have HR:=(HbR.out j wr Hr2.out).more Hmd.out;have r0:wd.cell? ⟨w.heap.size,0,none⟩=some (.slice none 0 0):=HR.cell rfl;have r1:wd.cell? ⟨w.heap.size,1,none⟩=some (.slice none 0 0):=HR.cell rfl;have z0:=HR.frozen 0;have z1:=HR.frozen 1;have zz:=HR.lt;have He:Hid (∀u',More ((wd.setCell ⟨w.heap.size,0,none⟩ (.slice ra rl rc)).setCell ⟨w.heap.size,1,none⟩ (.slice (some ⟨gc,0,none⟩) j vc)) u'->P (.returned (.agg #[.slice ra rl rc,.slice (some ⟨gc,0,none⟩) j vc])) u'):=fun u' mu=>Hend.out bs wd _ (Hr2.out.far Hmd.out) rfl u' mu
     have HSz:Hid (S ((wd.setCell ⟨w.heap.size,0,none⟩ (.slice ra rl rc)).setCell ⟨w.heap.size,1,none⟩ (.slice (some ⟨gc,0,none⟩) j vc))):=(HS.out _).2 ((((HS.out _).1 HS1).other ne0 _ _).other ne0 _ _);clear Hend HbLr HR b2 HS1;go_wp2_with (fail)
     refine J04 (S:=S) [(0,true),(1,true),(2,true),(3,true),(4,true),(5,true),(6,true),(7,true),(8,true),(9,true),(10,false)] (by kernel_rfl) (by kernel_rfl) (by kernel_rfl) HS0 ?_;rw[<-Hwd.out]
     iterate 10 (refine J00 rfl (by kernel_rfl) (fun K hK=>?_);go_simp;refine hK _ _ ?_;clear hK K)
     refine J03 rfl (by kernel_rfl) (fun K hK=>?_)
     go_simp
     refine hK _ _ HSz.out ?_;refine J06 ?_;clear hK K k0 k2 hne HS0;go_wp2;refine bodyPost_ret (v:=.agg #[.slice ra rl rc,.slice (some ⟨gc,0,none⟩) j vc]) (by simp[results,Tryz.results42,go_sem, *]) rfl (He.out _ ?_);exact More.refl _
    | succ g=>
     have hj:j < sn:=by omega
     have hji:(j:Int) < sn:=by omega
     have hj63:wrap64 ((j:Int)+1)=(j:Int)+1:=by unfold wrap64;omega
     have hI:=Hcd.out bs j wr Hr2.out j hj;have Hpq:=Hpl.out j hj;have Hps:Hid (¬((mixG (fitK q) q.cl j j).op=7\/(mixG (fitK q) q.cl j j).op=8)->∀w',More wr w'->H2 (fitK q) q.cl w0 bs (w.heap.size+1) gc (j+1) w'):=fun h w' m=>Hr2.out.pass m h
     have Hld:Hid ((mixG (fitK q) q.cl j j).op=7\/(mixG (fitK q) q.cl j j).op=8->∀w',More wr w'->H2 (fitK q) q.cl w0 bs (w.heap.size+1) gc (j+1) (w'.setCell ⟨gc,j*5+4,none⟩ (V (J0g (fitK q) (mixG (fitK q) q.cl j j).n.toNat:Nat)))):=fun h w' m=>(Hr2.out.far m).lead h
     obtain⟨⟨op,a,b,c,n⟩,HI⟩:∃x,Hid (mixG (fitK q) q.cl j j=x):=⟨_,rfl⟩;rw[HI.out]at hI Hpq Hps Hld;obtain⟨⟨c0,_⟩,⟨c1,_⟩,⟨c2,_⟩,⟨c3,_⟩,⟨c4,f4⟩⟩:=hI;dsimp only at c0 c1 c2 c3 c4 Hpq Hps Hld;have zg:=Hr2.out.hi;have hLg:¬Lb=gc:=by omega
     have hLg2:¬gc=Lb:=by omega
     clear HbLr;by_cases h78:op=7\/op=8
     ·have hpq:=Hpq h78
      obtain⟨n0,n1⟩:=hpq;obtain⟨nn,rfl⟩:=Int.eq_ofNat_of_zero_le n0;have hnk:(nn:Int) < (k:Int):=n1;have hsN:=Hsd.out bs j wr Hr2.out nn (by omega);have zs:=J0q hsN;dsimp only at zs;have Hn2:Hid (∀w',More wr w'->H2 (fitK q) q.cl w0 bs (w.heap.size+1) gc (j+1) (w'.setCell ⟨gc,j*5+4,none⟩ (V (J0g (fitK q) nn:Nat)))):=fun w' m'=>Hld.out h78 w' m'
      obtain⟨sN,HsN⟩:∃x,Hid (J0g (fitK q) nn=x):=⟨_,rfl⟩;rw[HsN.out]at hsN Hn2;have ne1:¬wr.heap.size=gc:=by omega
      have ne2:¬gc=wr.heap.size:=by omega
      clear Hps Hld Hpq n0 n1;have h7c:(op==7)=true\/((op==7)=false/\(op==8)=true):=by rcases h78 with rfl | rfl<;>simp
      clear h78;rcases h7c with e7 | ⟨e7,e8⟩
      all_goals
       obtain⟨W,HW⟩:∃w_:World,Hid (w_=wr.alloc (.cells #[V op,V a,V b,V c,V nn] 41)):=⟨_,rfl⟩;have HmW:Hid (More wr W):=HW.out▸(More.refl _).alloc _ _;have c44:=(HW.out▸Blk.last _ _ _:Blk W wr.heap.size #[V op,V a,V b,V c,V nn] 41).cell (j:=4) rfl;obtain⟨wd,Hwd⟩:∃w_:World,Hid (w_=W.drew):=⟨_,rfl⟩;have Hmd:Hid (More W wd):=Hwd.out▸(More.refl W).drew;obtain⟨S,HS⟩:∃S:World->Prop,Hid (∀w',S w'↔(w'.cell? ⟨Lb,2,none⟩=some (.slice (some ⟨gc,0,none⟩) sn vc)/\w'.cell? ⟨wr.heap.size,4,none⟩=some (V nn)/\w'.cell? ⟨w.heap.size+1,nn,none⟩=some (V sN))):=⟨_,fun _=>Iff.rfl⟩;have HS1:S wd:=(HS.out _).2 ⟨(HmW.out.trans Hmd.out).cell b2,Hmd.out.cell c44,(HmW.out.trans Hmd.out).cell hsN⟩;have HS0:S W.drew:=Hwd.out▸HS1;have k0:∀i:{ w' // S w' },i.val.cell? ⟨Lb,2,none⟩=some (.slice (some ⟨gc,0,none⟩) sn vc):=fun i=>((HS.out _).1 i.property).1
       have k1:∀i:{ w' // S w' },i.val.cell? ⟨wr.heap.size,4,none⟩=some (V nn):=fun i=>((HS.out _).1 i.property).2.1
       have k2:∀i:{ w' // S w' },i.val.cell? ⟨w.heap.size+1,nn,none⟩=some (V sN):=fun i=>((HS.out _).1 i.property).2.2
       have hne:Nonempty { w' // S w' }:=⟨⟨_,HS0⟩⟩;have x4:wd.cell? ⟨gc,j*5+4,none⟩=some (V nn):=(HmW.out.trans Hmd.out).cell c4
       have y4:wd.frozen? ⟨gc,j*5+4,none⟩=false:=by
        rw[World.frozen?_of_block (a:=⟨gc,j*5+4,none⟩) ((HmW.out.trans Hmd.out).block gc zg)];exact f4
       have HSz:Hid (S (wd.setCell ⟨gc,j*5+4,none⟩ (V sN))):=(HS.out _).2 (by
        have h1:=(HS.out _).1 HS1;refine⟨?_,?_,?_⟩
        ·rw[World.cell?_setCell_other _ _ _ _ (by intro e;simp only[Addr.mk.injEq]at e;omega)];exact h1.1
        ·rw[World.cell?_setCell_other _ _ _ _ (by intro e;simp only[Addr.mk.injEq]at e;omega)];exact h1.2.1
        ·rw[World.cell?_setCell_other _ _ _ _ (by intro e;simp only[Addr.mk.injEq]at e;omega)];exact h1.2.2)
       clear HS1 Hcd Hsd HbL HbR Hpl Hend hn0 hn1 hLg hLg2 hcl0 h6;go_wp2_with (fail)
       rw[<-HW.out];refine J04 (S:=S) [(0,true),(1,true),(2,true),(3,true),(4,true),(5,true),(6,true),(7,true),(8,true),(9,true),(10,true),(11,true),(12,false)] (by kernel_rfl) (by kernel_rfl) (by kernel_rfl) HS0 ?_;rw[<-Hwd.out]
       iterate 12 (refine J00 rfl (by kernel_rfl) (fun K hK=>?_);go_simp;refine hK _ _ ?_;clear hK K)
       refine J03 rfl (by kernel_rfl) (fun K hK=>?_)
       go_simp
       refine hK _ _ HSz.out ?_;refine J06 ?_;clear hK K k0 k1 k2 hne HS0;go_wp2;go_roundg g
       case measure=>omega
       case rel=>exact⟨j+1,by omega,by simp[hj63],Hn2.out wd (HmW.out.trans Hmd.out)⟩
     ·have e7:(op==7)=false:=by simp;omega
      have e8:(op==8)=false:=by simp;omega
      have Hn2:Hid (∀w',More wr w'->H2 (fitK q) q.cl w0 bs (w.heap.size+1) gc (j+1) w'):=Hps.out h78;clear h78 Hps Hld Hpq Hcd Hsd HbL HbR Hpl Hend hn0 hn1 hLg hLg2 hcl0 h6;go_wp2;go_roundg g
      case measure=>omega
      case rel=>exact⟨j+1,by omega,by simp[hj63],Hn2.out _ ((More.refl _).alloc _ _)⟩
  | succ g=>
   have hk:k < cl:=by omega
   have hki:(k:Int) < cl:=by omega
   have hk63:wrap64 ((k:Int)+1)=(k:Int)+1:=by unfold wrap64;omega
   obtain⟨q0,q1,q2,q3,q4⟩:=HC.out wr Hr.out.more k hk;obtain⟨_,va,vc,hB1,_,_⟩:=Hr.out.ld;have b2:wr.cell? ⟨Lb,2,none⟩=some (.slice va (J0g (fitK q) k) vc):=hB1.cell rfl;have hst0:=Hst.out k (by omega);have HS:Hid (∀w1 w2:World,More (wr.setCell ⟨w.heap.size+1,k,none⟩ (V (J0g (fitK q) k:Nat))) w1->Lw Lb (.slice ra rl rc) (.slice (some ⟨cb,co,none⟩) cl cc) (w.heap.size+2) (codeG (fitK q) k) (fitL (q.ins k)) ob w1 w2->∃ob',F1 w0 w q Lb (.slice ra rl rc) (.slice (some ⟨cb,co,none⟩) cl cc) (k+1) ob' w2):=fun w1 w2 m1 hl=>Hr.out.step Hl.out.2.1 Hl.out.2.2 Hl.out.1 (by rw[Hcl.out];exact hk) m1 hl
   have HD:Hid (∀w1,More (wr.setCell ⟨w.heap.size+1,k,none⟩ (V (J0g (fitK q) k:Nat))) w1->Ld w1 Lb (.slice ra rl rc) (.slice (some ⟨cb,co,none⟩) cl cc) (w.heap.size+2) (codeG (fitK q) k) ob):=fun w1 m1=>Hr.out.mid Hl.out.1 m1
   have HF:Hid (∀w1,Ld w1 Lb (.slice ra rl rc) (.slice (some ⟨cb,co,none⟩) cl cc) (w.heap.size+2) (codeG (fitK q) k) ob->w.heap.size+2<=w1.heap.size->Calls Tryz.prog 84 #[.pointer (some ⟨Lb,0,none⟩),.agg #[V (q.ins k).op,V (q.ins k).a,V (q.ins k).b,V (q.ins k).c,V (q.ins k).n]] w1 (Laid Lb (.slice ra rl rc) (.slice (some ⟨cb,co,none⟩) cl cc) (w.heap.size+2) (codeG (fitK q) k) (fitL (q.ins k)) ob w1)):=fun w1 h1 h2=>J9g Lb _ _ _ (q.ins k) _ ob w1 h1 h2 (by show J0g (fitK q) k<=8800;omega) (Hn.out k hk)
   obtain⟨rv,hrv,hfz⟩:=Hr.out.room k (by rw[Hcl.out];exact hk);have hz1:w.heap.size+1 < wr.heap.size:=J0q hrv;have n1:¬wr.heap.size=w.heap.size+1:=by omega
   have n2:¬w.heap.size+1=wr.heap.size:=by omega
   have hzL:Lb < wr.heap.size:=by omega
   have n3:¬wr.heap.size=Lb:=by omega
   have n4:¬Lb=wr.heap.size:=by omega
   obtain⟨st,Hstk⟩:∃x,Hid (J0g (fitK q) k=x):=⟨_,rfl⟩;rw[Hstk.out]at b2 hst0 HS HD;obtain⟨⟨op,a,b,c,n⟩,HI⟩:∃x,Hid (q.ins k=x):=⟨_,rfl⟩;rw[HI.out]at q0 q1 q2 q3 q4 HF HS;dsimp only at q0 q1 q2 q3 q4 HF HS;clear hB1;obtain⟨w1,Hw1⟩:∃w_:World,Hid (w_=(wr.setCell ⟨w.heap.size+1,k,none⟩ (V (st:Nat))).alloc (.cells #[V op,V a,V b,V c,V n] 41)):=⟨_,rfl⟩;have Hm1:Hid (More (wr.setCell ⟨w.heap.size+1,k,none⟩ (V (st:Nat))) w1):=Hw1.out▸(More.refl _).alloc _ _
   have Hz1:Hid (w.heap.size+2<=w1.heap.size):=by
    have:=Hm1.out.size;show _<=_;simp[World.setCell]at this;omega
   have HF1:=HF.out w1 (HD.out w1 Hm1.out) Hz1.out;go_wp2_with (fail)
   rw[<-Hw1.out];refine HF1.mono ?_;rintro e w2 ⟨rfl,hw2⟩;obtain⟨ob',hr2⟩:=HS.out w1 w2 Hm1.out hw2;have Hr2:Hid (F1 w0 w q Lb (.slice ra rl rc) (.slice (some ⟨cb,co,none⟩) cl cc) (k+1) ob' w2):=hr2;clear hr2 hw2 q0 q1 q2 q3 q4 b2 hrv hfz;go_wp2;go_roundg g
   case measure=>omega
   case rel=>exact⟨k+1,ob',by omega,by first | rfl | simp,Hr2.out⟩
end
section
open Go.RowKit
set_option linter.unusedSimpArgs false
set_option linter.unusedVariables false
section
variable {p h:Prg} {st:Nat->Nat} {B:Nat->List Ins} {X:Int} {l:KV} {lab:Nat->Nat->Bool}

end
section
variable {p h:Prg} {st:Nat->Nat} {B:Nat->List Ins} {X:Int} {l:KV} {m:Mem} {s t:St}

end
section
variable {p h:Prg} {st:Nat->Nat} {B:Nat->List Ins} {X:Int}
theorem Blo.from_(S:Blo p h st B X):∀(n:Nat),n<=p.cl->∀q,q < st n->∃k o,k < n/\o < (B k).length/\q=st k+o
 | 0,_,q,hq=>by rw[S.s0]at hq;omega
 | n+1,hn,q,hq=>by
  have e:=S.next n (by omega);by_cases c:q < st n
  ·obtain⟨k,o,h1,h2,h3⟩:=S.from_ n (by omega) q c
   exact⟨k,o,by omega,h2,h3⟩
  ·exact⟨n,q - st n,by omega,by omega,by omega⟩
end
theorem Jmz{rl:Nat}{log:Nat->Int}{cl:Nat}{a n:Int}(ha:Reg 10 a)(hn:B64 n):∀x ∈ numL a n,InsOk rl log cl 10 x/\N14 x.n:=by
 intro x hx;unfold numL at hx;rcases List.mem_cons.1 hx with rfl | hx
 ·exact⟨by unfold InsOk Reg;simp,by unfold N14;simp⟩
 ·exact⟨J8o (P:=fun x=>InsOk rl log cl 10 x) (fun n=>by unfold InsOk;simp;exact ha) (by unfold InsOk;simp;exact⟨ha,by unfold Reg;omega⟩) (fun n=>by unfold InsOk;simp;exact ha) 4 n x hx,Ja2 a 4 n (lim4 hn).1 (lim4 hn).2 x hx⟩
theorem Jig{rl:Nat}{log:Nat->Int}{cl:Nat}{i:Ins}(hI:InsOk rl log cl 10 i)(hn:B64 i.n)(hN:¬i.op=1->¬i.op=10->N14 i.n):∀x ∈ fitL i,InsOk rl log cl 10 x/\N14 x.n:=by
 intro x hx;unfold fitL at hx
 split at hx
 ·simp at hx;subst hx;exact⟨hI,by assumption⟩
 split at hx
 ·rename_i q
  unfold InsOk at hI;rw[if_pos q]at hI;exact Jmz hI.1 hn x hx
 split at hx
 ·rename_i q
  unfold InsOk at hI;simp[q]at hI;rcases List.mem_append.1 hx with hx | hx
  ·exact Jmz (by unfold Reg;omega) hn x hx
  ·simp at hx;subst hx
   exact⟨by unfold InsOk;simp;exact⟨hI.1,hI.2.1,by unfold Reg;omega⟩,by unfold N14;simp⟩
 ·rename_i q1 q2
  simp at hx;subst hx;exact⟨hI,hN q1 q2⟩

section
variable {p:Prg}
theorem Jbq:∀n,n<=p.cl->n<=stF p n/\stF p n<=13*n
 | 0,_=>⟨Nat.le_refl _,Nat.le_refl _⟩
 | n+1,h=>by
  have:=Jbq n (by omega);have:=fitB_len (p:=p) (k:=n);rw[Jg9 (by omega)];omega
theorem Jfo(ok:p.Ok 200 8)(hf:p.Fit)(j:Nat)(hj:j < (fitP (hardP p)).cl):InsOk p.rl p.log (fitP (hardP p)).cl 10 ((fitP (hardP p)).ins j)/\N14 ((fitP (hardP p)).ins j).n:=by
 have S:=Jni ok hf;rw[S.cl]at hj;obtain⟨k,o,hk,ho,rfl⟩:=S.from_ p.cl (Nat.le_refl _) j hj;have hi:=ok.2.2.2 k hk;have hn:B64 (p.ins k).n:=(hf.ins k hk).2.2.2.2;have e:=List.getElem?_eq_getElem ho;rw[Jih ok hk o _ e];have hx:=List.getElem_mem ho;generalize (fitB p k)[o]=x at hx;have c200:=ok.2.2.1;by_cases m:(p.ins k).op=3\/(p.ins k).op=4
 ·rw[J7w m]at hx
  have hr:Reg 8 (p.ins k).a/\Reg 8 (p.ins k).b/\Rgn p.rl (p.ins k).c:=by unfold InsOk at hi;rcases m with m | m<;>simpa[m]using hi
  obtain⟨ra,rb,rc⟩:=hr;have hlog:=ok.1.2 (p.ins k).c.toNat (by unfold Rgn at rc;omega);have h64:1<=J0h (p.log (p.ins k).c.toNat)/\J0h (p.log (p.ins k).c.toNat)<=64:=J2p (by omega);unfold Reg at ra rb;rcases List.mem_append.1 hx with hx | hx
  ·exact Jig (i:=⟨10,8,(p.ins k).b,0,(p.ins k).n⟩) (by unfold InsOk Reg;simp;omega) hn (fun _ q=>absurd rfl q) x hx
  ·simp at hx
   rcases hx with rfl | rfl
   ·exact⟨by unfold InsOk Reg;simp;omega,by unfold N14;dsimp only;omega⟩
   ·refine⟨?_,by unfold N14;simp⟩
    unfold InsOk Reg;rcases m with m | m<;>simp[m]<;>exact⟨by omega,rc⟩
 by_cases w:(p.ins k).op=7\/(p.ins k).op=8
 ·rw[Jav w]at hx
  simp at hx;subst hx;have hp:Plc p.cl (p.ins k).n:=by unfold InsOk at hi;rcases w with w | w<;>simp[w]at hi<;>simp[hi]
  unfold Plc at hp;have hlt:=S.lt (k:=(p.ins k).n.toNat) (o:=0) (by omega) fitB_len.1;have:=(Jbq (p:=p) (p.ins k).n.toNat (by omega)).2;refine⟨?_,by unfold N14;dsimp only;omega⟩;unfold InsOk Reg at hi |-;unfold Plc at hi |-;rcases w with w | w<;>simp[w]at hi |-<;>omega
 ·rw[J4l m w]at hx
  refine Jig (Jfw hi (fun _ _=>rfl) w) hn (fun q1 q10=>?_) x hx;unfold InsOk at hi;unfold N14
  have wd:∀c:Int,Rgn p.rl c->Wrd p.log c (p.ins k).n -> -8192<=(p.ins k).n/\(p.ins k).n<=8191:=fun c h1 h2=>by
   unfold Rgn at h1;unfold Wrd at h2;have h3:=ok.1.2 c.toNat (by omega);have:=(J2p (k:=(p.log c.toNat).toNat) (by omega)).2;omega
  rw[if_neg q1]at hi;by_cases q2:(p.ins k).op=2
  ·rw[if_pos q2]at hi;omega
  rw[if_neg q2,if_neg (by omega),if_neg (by omega)]at hi;by_cases q5:(p.ins k).op=5
  ·rw[if_pos q5]at hi;exact wd _ hi.2.2.1 hi.2.2.2
  rw[if_neg q5]at hi;by_cases q6:(p.ins k).op=6
  ·rw[if_pos q6]at hi;exact wd _ hi.2.2.1 hi.2.2.2
  rw[if_neg q6,if_neg (by omega),if_neg (by omega)]at hi;by_cases q9:(p.ins k).op=9
  ·rw[if_pos q9]at hi;omega
  rw[if_neg q9,if_neg q10]at hi;by_cases q11:(p.ins k).op=11
  ·rw[if_pos q11]at hi;omega
  rw[if_neg q11]at hi;by_cases q12:(p.ins k).op=12
  ·rw[if_pos q12]at hi;omega
  ·rw[if_neg q12]at hi;omega
theorem Jii(ok:p.Ok 200 8)(hf:p.Fit):(fitP (hardP p)).Ok 8000 10:=by
 have h1:=Jbq p.cl (Nat.le_refl _);have h2:=ok.2.1;have h3:=ok.2.2.1;have e:(fitP (hardP p)).cl=stF p p.cl:=rfl;exact⟨ok.1,by rw[e];omega,by rw[e];omega,fun i hi=>(Jfo ok hf i hi).1⟩
theorem Jkt(ok:p.Ok 200 8)(hf:p.Fit):∀j,j < (fitP (hardP p)).cl->N14 ((fitP (hardP p)).ins j).n:=fun j hj=>(Jfo ok hf j hj).2

end
end
section
open Go.RowKit
set_option linter.unusedSimpArgs false
set_option linter.unusedVariables false
set_option maxRecDepth 8000
theorem Jp2(x:Int)(k:Nat)(m n:Int)(h:W32 x)(hk:k<=14)(em:m=((2 ^ k - 1:Nat):Int))(en:n=((2 ^ k:Nat):Int)):bits .and .u32 x m=x % n:=by
 unfold W32 at h;obtain⟨X,rfl⟩:=Int.eq_ofNat_of_zero_le h.1;have h2:2 ^ k<=2 ^ 14:=Nat.pow_le_pow_right (by decide) hk;subst em en;rw[u32_and_nat X _ (by omega) (by omega),Nat.and_two_pow_sub_one_eq_mod]
 rfl
theorem or32(x y:Int)(k X Y:Nat)(hx:x=((2 ^ k*X:Nat):Int))(hy:y=(Y:Int))(h1:2 ^ k*X < 4294967296)(h2:Y < 2 ^ k)(hk:k<=30):bits .or .u32 x y=x+y:=by
 have h3:2 ^ k<=2 ^ 30:=Nat.pow_le_pow_right (by decide) hk;subst hx hy;rw[u32_or_nat _ _ h1 (by omega),<-Nat.two_pow_add_eq_or_of_lt h2]
 push_cast
 rfl

theorem Jki{op a b c n:Int}(s:Small ⟨op,a,b,c,n⟩)(hn:N14 n):
  bits BinOp.or IntKind.u32 (bits BinOp.or IntKind.u32 (bits BinOp.or IntKind.u32 (bits BinOp.or IntKind.u32 (op % 4294967296*67108864 % 4294967296) (a % 4294967296*4194304 % 4294967296)) (b % 4294967296*262144 % 4294967296)) (c % 4294967296*16384 % 4294967296)) (bits BinOp.and IntKind.u32 (n % 4294967296) 16383)=encW ⟨op,a,b,c,n⟩:=by
 obtain⟨⟨o0,o1⟩,⟨a0,a1⟩,⟨b0,b1⟩,⟨c0,c1⟩⟩:=s;dsimp only at o0 o1 a0 a1 b0 b1 c0 c1;unfold N14 at hn
 have e0:bits .and .u32 (n % 4294967296) 16383=(if n < 0 then n+16384 else n):=by
  rw[Jp2 (n % 4294967296) 14 16383 16384 (by unfold W32;omega) (by decide) (by decide) (by decide)]
  split<;>omega
 have e1:op % 4294967296*67108864 % 4294967296=op*67108864:=by omega
 have e2:a % 4294967296*4194304 % 4294967296=a*4194304:=by omega
 have e3:b % 4294967296*262144 % 4294967296=b*262144:=by omega
 have e4:c % 4294967296*16384 % 4294967296=c*16384:=by omega
 have hm:∃M:Nat,(if n < 0 then n+16384 else n)=(M:Int)/\M < 16384:=by
  by_cases h:n < 0
  ·rw[if_pos h];exact⟨(n+16384).toNat,by omega,by omega⟩
  ·rw[if_neg h];exact⟨n.toNat,by omega,by omega⟩
 rw[e0,e1,e2,e3,e4];unfold encW;dsimp only;obtain⟨M,hM,hM1⟩:=hm;rw[hM];obtain⟨O,rfl⟩:=Int.eq_ofNat_of_zero_le o0;obtain⟨A,rfl⟩:=Int.eq_ofNat_of_zero_le a0;obtain⟨B,rfl⟩:=Int.eq_ofNat_of_zero_le b0;obtain⟨C,rfl⟩:=Int.eq_ofNat_of_zero_le c0
 rw[or32 ((O:Int)*67108864) ((A:Int)*4194304) 26 O (A*4194304) (by omega) (by omega) (by omega) (by omega) (by decide),
  or32 _ ((B:Int)*262144) 22 (O*16+A) (B*262144) (by omega) (by omega) (by omega) (by omega) (by decide),
  or32 _ ((C:Int)*16384) 18 ((O*16+A)*16+B) (C*16384) (by omega) (by omega) (by omega) (by omega) (by decide),
  or32 _ (M:Int) 14 (((O*16+A)*16+B)*16+C) M (by omega) rfl (by omega) (by omega) (by decide)]
 omega

theorem Jbx(op a b c n:Int)(w:World)(s:Small ⟨op,a,b,c,n⟩)(hn:N14 n):
  Calls Tryz.prog 83 #[.agg #[V op,V a,V b,V c,V n]] w fun e w'=>e=.returned (.int .u32 (encW ⟨op,a,b,c,n⟩))/\More w w':=by
 have H:=Jki s hn;obtain⟨u,hu⟩:∃x,encW ⟨op,a,b,c,n⟩=x:=⟨_,rfl⟩;rw[hu]at H |-;have HH:Hid (_=u):=H;clear s hn hu H;go_enter Tryz.func83,Tryz.ntmps83;go_wp2;go_ret;rw[<-HH.out];exact⟨rfl,(More.refl _).alloc _ _⟩
def J99(p:Prg)(k j:Nat):Value:=.int .u32 (if j < k then encW (p.ins j) else 0)

structure P7(w:World)(p:Prg)(rv cv:Value)(g k:Nat)(wr:World):Prop where
 box:Blk wr w.heap.size #[rv,cv] 28
 res:Blk wr (w.heap.size+1) #[V 0,V 0] 52
 row:∀j,j < p.cl->Wr wr g j (J99 p k j)
 lo:w.heap.size+2<=g
 hi:g < wr.heap.size
 ok:∀j,j < k->N14 (p.ins j).n
 more:More w wr

theorem P7.step{w:World}{p:Prg}{rv cv:Value}{g k:Nat}{wr w1 w2:World}(h:P7 w p rv cv g k wr)(m1:More wr w1)(hn:N14 (p.ins k).n)(e2:w2=w1.setCell ⟨g,k,none⟩ (.int .u32 (encW (p.ins k)))):P7 w p rv cv g (k+1) w2:=by
 have hlo:=h.lo;subst e2;refine⟨(h.box.more m1).other (by omega) _ _,(h.res.more m1).other (by omega) _ _,fun j hj=>?_,hlo,?_,fun j hj=>?_,(h.more.trans m1).setCell (by show w.heap.size<=g;omega) _⟩
 ·have h1:=(h.row j hj).kept (m1.grow none) (by simp)
  by_cases e:j=k
  ·subst e
   have h2:=h1.same (.int .u32 (encW (p.ins j)));unfold J99;rw[if_pos (by omega)];exact h2
  ·have h2:=h1.other g k (.int .u32 (encW (p.ins k))) (.inr (fun q=>e q.symm))
   have e2:J99 p (k+1) j=J99 p k j:=by
    unfold J99;by_cases q:j < k
    ·rw[if_pos q,if_pos (by omega)]
    ·rw[if_neg q,if_neg (by omega)]
   rw[e2];exact h2
 ·have:=m1.size;have:=h.hi;simp;omega
 ·by_cases e:j=k
  ·subst e;exact hn
  ·exact h.ok j (by omega)

theorem Jjg(p:Prg)(l:Loc)(w:World)(hp:PIn w p l):Calls Tryz.prog 41 #[.agg #[.slice l.ra p.rl l.rc,.slice l.ca p.cl l.cc]] w (Jmn p w):=by
 have CH:Hid (∀w1:World,More w w1->Calls Tryz.prog 38 #[.agg #[.slice l.ra p.rl l.rc,.slice l.ca p.cl l.cc]] w1 fun e w'=>∃r:Bool,e=.returned (.bool r)/\(r=true↔p.Ok 8000 10)/\More w1 w'):=fun w1 m1=>J3u p l w1 (hp.more m1)
 have Hp:Hid (PIn w p l):=hp;clear hp;obtain⟨ra,Hra⟩:∃x,Hid (l.ra=x):=⟨_,rfl⟩;obtain⟨rl,Hrl⟩:∃x,Hid (p.rl=x):=⟨_,rfl⟩;obtain⟨rc,Hrc⟩:∃x,Hid (l.rc=x):=⟨_,rfl⟩;obtain⟨ca,Hca⟩:∃x,Hid (l.ca=x):=⟨_,rfl⟩;obtain⟨cl,Hcl⟩:∃x,Hid (p.cl=x):=⟨_,rfl⟩;obtain⟨cc,Hcc⟩:∃x,Hid (l.cc=x):=⟨_,rfl⟩;rw[Hra.out,Hrl.out,Hrc.out,Hca.out,Hcl.out,Hcc.out]at CH |-;obtain⟨W0,HW0⟩:∃W:World,Hid (W=(w.alloc (.cells #[.slice ra rl rc,.slice ca cl cc] 28)).alloc (.cells #[V 0,V 0] 52)):=⟨_,rfl⟩;have Hm0:Hid (More w W0):=by rw[HW0.out];exact((More.refl _).alloc _ _).alloc _ _
 have B0:Hid (Blk W0 w.heap.size #[.slice ra rl rc,.slice ca cl cc] 28):=by rw[HW0.out];exact(Blk.last _ _ _).alloc _ _
 have B1:Hid (Blk W0 (w.heap.size+1) #[V 0,V 0] 52):=by rw[HW0.out];show Blk _ _ _ _;simpa using Blk.last (w.alloc (.cells #[.slice ra rl rc,.slice ca cl cc] 28)) #[V 0,V 0] 52
 go_enter Tryz.func41,Tryz.ntmps41;go_wp2_with (fail)
 rw[<-HW0.out];have b0:W0.cell? ⟨w.heap.size,0,none⟩=some (.slice ra rl rc):=B0.out.cell rfl;have b1:W0.cell? ⟨w.heap.size,1,none⟩=some (.slice ca cl cc):=B0.out.cell rfl;go_wp2_with (fail)
 refine(CH.out W0 Hm0.out).mono ?_;rintro e w1 ⟨r,rfl,hr,m1⟩;have Hm1:Hid (More W0 w1):=m1;have D0:Hid (Blk w1 w.heap.size #[.slice ra rl rc,.slice ca cl cc] 28):=B0.out.more m1;have D1:Hid (Blk w1 (w.heap.size+1) #[V 0,V 0] 52):=B1.out.more m1;clear m1 CH B0 B1 b0 b1;have a2:w1.cell? ⟨w.heap.size+1,0,none⟩=some (V 0):=D1.out.cell rfl;have a3:w1.cell? ⟨w.heap.size+1,1,none⟩=some (V 0):=D1.out.cell rfl;have z2:=D1.out.frozen 0;have z3:=D1.out.frozen 1;cases r with
 | false=>
  have Hno:Hid (¬p.Ok 8000 10):=fun h=>by simpa using hr.2 h
  clear hr;go_wp2;refine bodyPost_ret (v:=.tuple #[.slice none 0 0,.agg #[V 2,V 0]]) (by simp[results,Tryz.results41,go_sem, *]) rfl ?_;refine⟨(2,0),.inl ⟨Hno.out,rfl⟩,?_,.inr ⟨by decide,rfl⟩⟩;exact((Hm0.out.trans Hm1.out).setCell (by show w.heap.size<=_;simp) _).setCell (by show w.heap.size<=_;simp) _
 | true=>
  have Hok:Hid (p.Ok 8000 10):=hr.1 rfl;clear hr a2 a3 z2 z3;have hcl0:=Hok.out.2.1;have hcl1:=Hok.out.2.2.1;have hca:=Hp.out.hc (by omega);rw[Hcl.out]at hcl0 hcl1;obtain⟨cb,Hcb⟩:∃x,Hid (l.cb=x):=⟨_,rfl⟩;obtain⟨co,Hco⟩:∃x,Hid (l.co=x):=⟨_,rfl⟩;rw[Hca.out,Hcb.out,Hco.out]at hca;subst hca
  have HC:Hid (∀w1:World,More w w1->CodeAt w1 cb co cl p.ins):=fun w1 m1=>by
   have:=Hp.out.code.more m1;rw[Hcb.out,Hco.out,Hcl.out]at this;exact this
  have b0:w1.cell? ⟨w.heap.size,0,none⟩=some (.slice ra rl rc):=D0.out.cell rfl;have b1:w1.cell? ⟨w.heap.size,1,none⟩=some (.slice (some ⟨cb,co,none⟩) cl cc):=D0.out.cell rfl;have hmk:=run_make_row' (P:=Tryz.prog) 59 149 (.int .u32 0) 4 Tryz.underlying59 Jot rfl .i64 .i64 cl (by omega) (by omega);obtain⟨w2,Hw2⟩:∃w_:World,Hid (w_=w1.alloc (.cells (madeCells #[.int .u32 0] cl) 149)):=⟨_,rfl⟩;obtain⟨g0,Hg0⟩:∃x,Hid (x=w1.heap.size):=⟨_,rfl⟩
  have HS0:Hid (P7 w p (.slice ra rl rc) (.slice (some ⟨cb,co,none⟩) cl cc) g0 0 w2):=by
   have hsz:=D1.out.lt;have e:=Hg0.out;rw[Hw2.out];refine⟨D0.out.alloc _ _,D1.out.alloc _ _,fun j hj=>?_,by omega,by rw[e];simp,fun j hj=>absurd hj (Nat.not_lt_zero _),(Hm0.out.trans Hm1.out).alloc _ _⟩;rw[Hcl.out]at hj;have hb:=Blk.last w1 (madeCells #[.int .u32 0] cl) 149;rw[e];refine⟨hb.cell ?_,hb.frozen _⟩;rw[J7z _ _ _ hj]
   rfl
  have zlt:=D0.out.lt;go_wp2_with (fail)
  rw[<-Hw2.out,<-Hg0.out];clear hmk b0 b1 zlt;go_loopg [18] cl (fun g iv wr=>∃(k:Nat),k+g=cl/\iv=V k/\Hid (P7 w p (.slice ra rl rc) (.slice (some ⟨cb,co,none⟩) cl cc) g0 k wr))
  case atStart=>exact⟨0,by omega,rfl,HS0.out⟩
  case round=>
   obtain⟨k,hkg,rfl,Hr⟩:=hrel;clear HS0;have a2:wr.cell? ⟨w.heap.size+1,0,none⟩=some (V 0):=Hr.out.res.cell rfl;have a3:wr.cell? ⟨w.heap.size+1,1,none⟩=some (V 0):=Hr.out.res.cell rfl;have z0:=Hr.out.res.lt;have z2:=Hr.out.res.frozen 0;have z3:=Hr.out.res.frozen 1;cases gk with
   | zero=>
    obtain rfl:k=cl:=by omega
    go_wp2;refine bodyPost_ret (v:=.tuple #[.slice (some ⟨g0,0,none⟩) k k,.agg #[V 0,V 0]]) (by simp[results,Tryz.results41,go_sem, *]) rfl ?_;have hlo:=Hr.out.lo;refine⟨(0,0),.inr (.inr ⟨Hok.out,fun j hj=>Hr.out.ok j (by rw[<-Hcl.out];exact hj),rfl⟩),?_,.inl ⟨rfl,g0,k,by rw[Hcl.out],by omega,fun i hi=>?_⟩⟩
    ·exact(Hr.out.more.setCell (by show w.heap.size<=_;simp) _).setCell (by show w.heap.size<=_;simp) _
    ·have h1:=(((Hr.out.row i hi).other (w.heap.size+1) 0 (V 0) (.inl (by omega))).other (w.heap.size+1) 1 (V 0) (.inl (by omega))).1
     rw[Nat.zero_add,h1];rw[Hcl.out]at hi;unfold J99;rw[if_pos hi]
   | succ g=>
    have hk:k < cl:=by omega
    have hki:(k:Int) < cl:=by omega
    have hk63:wrap64 ((k:Int)+1)=(k:Int)+1:=by unfold wrap64;omega
    obtain⟨q0,q1,q2,q3,q4⟩:=HC.out wr Hr.out.more k hk;have hsm:Small (p.ins k):=Jm6 Hok.out.1.1 (Hok.out.2.2.2 k (by rw[Hcl.out];exact hk));have Hst:Hid (∀(w1 w2:World),More wr w1->N14 (p.ins k).n->w2=w1.setCell ⟨g0,k,none⟩ (.int .u32 (encW (p.ins k)))->P7 w p (.slice ra rl rc) (.slice (some ⟨cb,co,none⟩) cl cc) g0 (k+1) w2):=fun w1 w2 m1 hn e=>Hr.out.step m1 hn e
    have Hrow:Hid (∀w1:World,More wr w1->Wr w1 g0 k (J99 p k k)):=fun w1 m1=>(Hr.out.row k (by rw[Hcl.out];exact hk)).kept (m1.grow none) (by simp)
    have Hbad:Hid (¬N14 (p.ins k).n->PutR p (3,(k:Int))):=fun h=>.inr (.inl ⟨Hok.out,k,by rw[Hcl.out];exact hk,Hr.out.ok,h,rfl⟩)
    obtain⟨⟨op,a,b,c,n⟩,HI⟩:∃x,Hid (p.ins k=x):=⟨_,rfl⟩;rw[HI.out]at q0 q1 q2 q3 q4 hsm Hbad Hst;dsimp only at q0 q1 q2 q3 q4 Hbad;have Hsm:Hid (Small ⟨op,a,b,c,n⟩):=hsm;clear hsm;by_cases hn:N14 n
    ·have hn':=hn
     obtain⟨n0,n1⟩:=hn';have d1:decide (n < -8192)=false:=by simp;omega
     have d2:decide (8191 < n)=false:=by simp;omega
     have HN:Hid (N14 n):=hn;clear hn Hbad n0 n1;go_wp2_with (fail)
     refine(Jbx op a b c n _ Hsm.out HN.out).mono ?_;rintro e w3 ⟨rfl,m3⟩;have Hm3:Hid (More wr w3):=((More.refl _).alloc _ _).trans m3;clear m3;obtain⟨x1,x2⟩:=Hrow.out w3 Hm3.out;obtain⟨u,Hu⟩:∃x,Hid (encW ⟨op,a,b,c,n⟩=x):=⟨_,rfl⟩;rw[Hu.out]at Hst |-;have Hn3:Hid (P7 w p (.slice ra rl rc) (.slice (some ⟨cb,co,none⟩) cl cc) g0 (k+1) (w3.setCell ⟨g0,k,none⟩ (.int .u32 u))):=Hst.out w3 _ Hm3.out HN.out rfl;clear Hst;go_wp2;go_roundg g
     case measure=>omega
     case rel=>exact⟨k+1,by omega,by first | rfl | simp,Hn3.out⟩
    ·have HB:Hid (PutR p (3,(k:Int))):=Hbad.out hn
     have Hmr:Hid (More w wr):=Hr.out.more;clear Hbad Hst Hrow
     have Hfin:Hid (∀w':World,w'=((wr.setCell ⟨w.heap.size+1,0,none⟩ (V 3)).setCell ⟨w.heap.size+1,1,none⟩ (V (k:Int))).alloc (.cells #[V op,V a,V b,V c,V n] 41)->Jmn p w (.returned (.tuple #[.slice none 0 0,.agg #[V 3,V (k:Int)]])) w'):=fun w' e=>by
      refine⟨(3,(k:Int)),HB.out,?_,.inr ⟨by show¬(3:Int)=0;decide,rfl⟩⟩;rw[e];exact((Hmr.out.setCell (by show w.heap.size<=_;simp) _).setCell (by show w.heap.size<=_;simp) _).alloc _ _
     by_cases h1:n < -8192
     ·have d1:decide (n < -8192)=true:=by simp[h1]
      clear hn;go_wp2;refine bodyPost_ret (v:=.tuple #[.slice none 0 0,.agg #[V 3,V (k:Int)]]) (by simp[results,Tryz.results41,go_sem, *]) rfl (Hfin.out _ rfl)
     ·have d1:decide (n < -8192)=false:=by simp[h1]
      have d2:decide (8191 < n)=true:=by unfold N14 at hn;simp;omega
      clear hn h1;go_wp2;refine bodyPost_ret (v:=.tuple #[.slice none 0 0,.agg #[V 3,V (k:Int)]]) (by simp[results,Tryz.results41,go_sem, *]) rfl (Hfin.out _ rfl)
def Jna(p:Prg)(w:World)(e:Ending)(w':World):Prop:=
  ∃f:Int × Int,Told p f/\More w w'/\
    ((f.1=0/\∃g c,e=.returned (.tuple #[.slice (some ⟨g,0,none⟩) (fitP (hardP p)).cl c,.agg #[V 0,V 0]])/\J84 w' g 0 (fitP (hardP p)).cl (fun j=>encW ((fitP (hardP p)).ins j)))\/
     (¬f.1=0/\e=.returned (.tuple #[.slice none 0 0,.agg #[V f.1,V f.2]])))

theorem Jls{q:Prg}{f:Int × Int}(ok:q.Ok 8000 10)(hn:∀j,j < q.cl->N14 (q.ins j).n)(h:PutR q f):f=(0,0):=h.one (.inr (.inr ⟨ok,hn,rfl⟩))

theorem J9z(p:Prg)(l:Loc)(w:World)(hp:PIn w p l)(hf:p.Fit):Calls Tryz.prog 18 #[prgV p l] w (Jna p w):=by
  unfold prgV;have C1:Hid (∀w1:World,More w w1->Calls Tryz.prog 16 #[.agg #[.slice l.ra p.rl l.rc,.slice l.ca p.cl l.cc]] w1 (Made p w1)):=fun w1 m1=>Jh8 p l w1 (hp.more m1) hf
  have C2:Hid (p.Ok 200 8->∀(lh:Loc) (w1 w2:World) (Lb:Nat),More w1 w2->w1.heap.size<=Lb->PIn w1 (hardP p) lh->Blk w2 Lb #[.slice lh.ra (hardP p).rl lh.rc,.slice lh.ca (hardP p).cl lh.cc,.slice none 0 0] 109->Calls Tryz.prog 42 #[.pointer (some ⟨Lb,0,none⟩)] w2 fun e w'=>∃lf:Loc,e=.returned (prgV (fitP (hardP p)) lf)/\PIn w' (fitP (hardP p)) lf/\More w1 w'):=fun ok lh w1 w2 Lb m h1 h2 h3=>by
    have hl:=Jil (J6c p) ok hf;exact Jh5 (hardP p) lh w1 w2 Lb m h1 h2 hl.ok (by have:=J2o p p.cl;have:=ok.2.2.1;show J0c p p.cl<=600;omega) h3 (fun k hk=>(hl.fit.ins k hk).2.2.2.2)
  have C3:Hid (p.Ok 200 8->∀(lf:Loc) (w1:World),PIn w1 (fitP (hardP p)) lf->Calls Tryz.prog 41 #[prgV (fitP (hardP p)) lf] w1 fun e w'=>More w1 w'/\∃g c,e=.returned (.tuple #[.slice (some ⟨g,0,none⟩) (fitP (hardP p)).cl c,.agg #[V 0,V 0]])/\w1.heap.size<=g/\J84 w' g 0 (fitP (hardP p)).cl (fun j=>encW ((fitP (hardP p)).ins j))):=fun ok lf w1 h1=>by
    refine(Jjg _ lf w1 h1).mono ?_;rintro e w' ⟨f,hR,m,h⟩;obtain rfl:=Jls (Jii ok hf) (Jkt ok hf) hR;rcases h with⟨_,g,c,he,hg,hw⟩ | ⟨h,_⟩
    · exact⟨m,g,c,he,hg,hw⟩
    · exact absurd rfl h
  clear hp hf;obtain⟨ra,Hra⟩:∃x,Hid (l.ra=x):=⟨_,rfl⟩;obtain⟨rl,Hrl⟩:∃x,Hid (p.rl=x):=⟨_,rfl⟩;obtain⟨rc,Hrc⟩:∃x,Hid (l.rc=x):=⟨_,rfl⟩;obtain⟨ca,Hca⟩:∃x,Hid (l.ca=x):=⟨_,rfl⟩;obtain⟨cl,Hcl⟩:∃x,Hid (p.cl=x):=⟨_,rfl⟩;obtain⟨cc,Hcc⟩:∃x,Hid (l.cc=x):=⟨_,rfl⟩;rw[Hra.out,Hrl.out,Hrc.out,Hca.out,Hcl.out,Hcc.out]at C1 |-;obtain⟨W0,HW0⟩:∃W:World,Hid (W=(w.alloc (.cells #[.slice ra rl rc,.slice ca cl cc] 28)).alloc (.cells #[V 0,V 0] 52)):=⟨_,rfl⟩;have Hm0:Hid (More w W0):=HW0.out▸((More.refl _).alloc _ _).alloc _ _;have B1:Hid (Blk W0 (w.heap.size+1) #[V 0,V 0] 52):=HW0.out▸(by simpa using Blk.last (w.alloc (.cells #[.slice ra rl rc,.slice ca cl cc] 28)) #[V 0,V 0] 52:Blk _ (w.heap.size+1) _ _);go_enter Tryz.func18,Tryz.ntmps18;go_wp2_with (fail)
  rw[<-HW0.out];refine(C1.out W0 Hm0.out).mono ?_;rintro e w1 ⟨⟨f1,f2⟩,hT,m1,h⟩;have HT:Hid (Told p (f1,f2)):=hT;have Hm1:Hid (More W0 w1):=m1;clear hT m1 C1;rcases h with⟨h0,lh,hin,rfl⟩ | ⟨h0,rfl⟩
  · dsimp only at h0
    subst h0;obtain⟨hok,lk,hk,hk0⟩:=HT.out.ok rfl;have HO:Hid (p.Ok 200 8):=hok;clear hok hk hk0;have C2':=C2.out HO.out lh;have C3':Hid (∀(lf:Loc) (w1:World),PIn w1 (fitP (hardP p)) lf->Calls Tryz.prog 41 #[prgV (fitP (hardP p)) lf] w1 fun e w'=>More w1 w'/\∃g c,e=.returned (.tuple #[.slice (some ⟨g,0,none⟩) (fitP (hardP p)).cl c,.agg #[V 0,V 0]])/\w1.heap.size<=g/\J84 w' g 0 (fitP (hardP p)).cl (fun j=>encW ((fitP (hardP p)).ins j))):=C3.out HO.out;have Hin:Hid (PIn w1 (hardP p) lh):=hin;unfold prgV;obtain⟨ra',Hra'⟩:∃x,Hid (lh.ra=x):=⟨_,rfl⟩;obtain⟨rl',Hrl'⟩:∃x,Hid ((hardP p).rl=x):=⟨_,rfl⟩;obtain⟨rc',Hrc'⟩:∃x,Hid (lh.rc=x):=⟨_,rfl⟩;obtain⟨ca',Hca'⟩:∃x,Hid (lh.ca=x):=⟨_,rfl⟩;obtain⟨cl',Hcl'⟩:∃x,Hid ((hardP p).cl=x):=⟨_,rfl⟩;obtain⟨cc',Hcc'⟩:∃x,Hid (lh.cc=x):=⟨_,rfl⟩;rw[Hra'.out,Hrl'.out,Hrc'.out,Hca'.out,Hcl'.out,Hcc'.out]at C2' |-;have C2'':Hid (∀(w1 w2:World) (Lb:Nat),More w1 w2->w1.heap.size<=Lb->PIn w1 (hardP p) lh->Blk w2 Lb #[.slice ra' rl' rc',.slice ca' cl' cc',.slice none 0 0] 109->Calls Tryz.prog 42 #[.pointer (some ⟨Lb,0,none⟩)] w2 fun e w'=>∃lf:Loc,e=.returned (prgV (fitP (hardP p)) lf)/\PIn w' (fitP (hardP p)) lf/\More w1 w'):=C2';clear C2 C3 C2' hin
    obtain⟨W2,HW2⟩:∃W:World,Hid (W=((w1.alloc (.cells #[.slice ra' rl' rc',.slice ca' cl' cc'] 28)).alloc (.cells #[V 0,V 0] 52)).alloc (.cells #[.slice ra' rl' rc',.slice ca' cl' cc',.slice none 0 0] 109)):=⟨_,rfl⟩;have Hm2:Hid (More w1 W2):=HW2.out▸(((More.refl _).alloc _ _).alloc _ _).alloc _ _;have HB2:Hid (Blk W2 (w1.heap.size+1+1) #[.slice ra' rl' rc',.slice ca' cl' cc',.slice none 0 0] 109):=HW2.out▸(by simpa using Blk.last ((w1.alloc (.cells #[.slice ra' rl' rc',.slice ca' cl' cc'] 28)).alloc (.cells #[V 0,V 0] 52)) #[.slice ra' rl' rc',.slice ca' cl' cc',.slice none 0 0] 109:Blk _ (w1.heap.size+1+1) _ _);have C21:=C2''.out w1 W2 (w1.heap.size+1+1) Hm2.out (by omega) Hin.out HB2.out;go_wp2_with (fail)
    rw[<-HW2.out];refine C21.mono ?_;rintro e w3 ⟨lf,rfl,hin3,m3⟩;have C31:=C3'.out lf w3 hin3;have Hm3:Hid (More w1 w3):=m3;unfold prgV at C31 |-;obtain⟨ra2,Hra2⟩:∃x,Hid (lf.ra=x):=⟨_,rfl⟩;obtain⟨rl2,Hrl2⟩:∃x,Hid ((fitP (hardP p)).rl=x):=⟨_,rfl⟩;obtain⟨rc2,Hrc2⟩:∃x,Hid (lf.rc=x):=⟨_,rfl⟩;obtain⟨ca2,Hca2⟩:∃x,Hid (lf.ca=x):=⟨_,rfl⟩;obtain⟨cl2,Hcl2⟩:∃x,Hid ((fitP (hardP p)).cl=x):=⟨_,rfl⟩;obtain⟨cc2,Hcc2⟩:∃x,Hid (lf.cc=x):=⟨_,rfl⟩;rw[Hra2.out,Hrl2.out,Hrc2.out,Hca2.out,Hcl2.out,Hcc2.out]at C31;rw[Hra2.out,Hrl2.out,Hrc2.out,Hca2.out,Hcl2.out,Hcc2.out];clear C2'' C3' C21 hin3 m3;go_wp2_with (fail)
    refine C31.mono ?_;rintro e w4 ⟨m4,g,c,rfl,hg,hw⟩;have HW4:Hid (J84 w4 g 0 cl2 (fun j=>encW ((fitP (hardP p)).ins j))/\w3.heap.size<=g):=⟨hw,hg⟩;have Hm4:Hid (More W0 w4):=(Hm1.out.trans Hm3.out).trans m4;clear hw hg m4 C31;have B4:Hid (Blk w4 (w.heap.size+1) #[V 0,V 0] 52):=B1.out.more Hm4.out;have a0:w4.cell? ⟨w.heap.size+1,0,none⟩=some (V 0):=B4.out.cell rfl;have a1:w4.cell? ⟨w.heap.size+1,1,none⟩=some (V 0):=B4.out.cell rfl;have z0:=B4.out.frozen 0;have z1:=B4.out.frozen 1;go_wp2;refine bodyPost_ret (v:=.tuple #[.slice (some ⟨g,0,none⟩) cl2 c,.agg #[V 0,V 0]]) (by simp[results,Tryz.results18,go_sem, *]) rfl ?_
    have hsz:w.heap.size+1 < w3.heap.size:=by
      have:=(B1.out.more (Hm1.out.trans Hm3.out)).lt;omega
    refine⟨(0,f2),HT.out,?_,.inl ⟨rfl,g,c,?_,?_⟩⟩
    · exact((Hm0.out.trans Hm4.out).setCell (by show w.heap.size<=_;simp) _).setCell (by show w.heap.size<=_;simp) _
    · rw[Hcl2.out]
    · rw[Hcl2.out]
      have hg:=HW4.out.2;intro j hj;rw[World.cell?_setCell_other _ _ _ _ (by intro e;simp only[Addr.mk.injEq]at e;omega),World.cell?_setCell_other _ _ _ _ (by intro e;simp only[Addr.mk.injEq]at e;omega)];exact HW4.out.1 j hj
  · have H0:Hid (¬f1=0):=h0
    have e1:(f1 != 0)=true:=by simp;exact h0
    clear h0 C2 C3;obtain⟨W,HW⟩:∃W:World,Hid (W=(w1.alloc (.cells #[.slice none 0 0,.slice none 0 0] 28)).alloc (.cells #[V f1,V f2] 52)):=⟨_,rfl⟩;have HmW:Hid (More w1 W):=HW.out▸((More.refl _).alloc _ _).alloc _ _;have D3:Hid (Blk W (w1.heap.size+1) #[V f1,V f2] 52):=HW.out▸(by simpa using Blk.last (w1.alloc (.cells #[.slice none 0 0,.slice none 0 0] 28)) #[V f1,V f2] 52:Blk _ (w1.heap.size+1) _ _);have Hm:Hid (More W0 W):=Hm1.out.trans HmW.out;obtain⟨S,HS⟩:∃S:World->Prop,Hid (∀w',S w'↔Blk w' (w1.heap.size+1) #[V f1,V f2] 52):=⟨_,fun _=>Iff.rfl⟩;have HS0:S W.drew:=(HS.out _).2 D3.out;have k0:∀i:{ w' // S w' },i.val.cell? ⟨w1.heap.size+1,0,none⟩=some (V f1):=fun i=>((HS.out _).1 i.property).cell rfl
    have k1:∀i:{ w' // S w' },i.val.cell? ⟨w1.heap.size+1,1,none⟩=some (V f2):=fun i=>((HS.out _).1 i.property).cell rfl
    have hne:Nonempty { w' // S w' }:=⟨⟨_,HS0⟩⟩;have hz1:w.heap.size+1 < w1.heap.size:=(B1.out.more Hm1.out).lt;have B4:Hid (Blk W (w.heap.size+1) #[V 0,V 0] 52):=B1.out.more Hm.out;have a0:W.cell? ⟨w.heap.size+1,0,none⟩=some (V 0):=B4.out.cell rfl;have a1:W.cell? ⟨w.heap.size+1,1,none⟩=some (V 0):=B4.out.cell rfl;have z0:=B4.out.frozen 0;have z1:=B4.out.frozen 1;go_wp2_with (fail)
    rw[<-HW.out];refine J04 (S:=S) [(0,true),(1,true),(2,false)] (by kernel_rfl) (by kernel_rfl) (by kernel_rfl) HS0 ?_
    iterate 2 (refine J00 rfl (by kernel_rfl) (fun K hK=>?_);go_simp;refine hK _ _ ?_;clear hK K)
    refine J03 rfl (by kernel_rfl) (fun K hK=>?_);go_simp;refine hK _ _ ((HS.out _).2 ((D3.out.other (by omega) _ _).other (by omega) _ _)) ?_;clear hK K;refine J06 ?_;clear k0 k1 hne HS0;go_wp2;refine bodyPost_ret (v:=.tuple #[.slice none 0 0,.agg #[V f1,V f2]]) (by simp[results,Tryz.results18,go_sem, *]) rfl ?_;refine⟨(f1,f2),HT.out,?_,.inr ⟨H0.out,rfl⟩⟩;exact(((Hm0.out.trans Hm.out).setCell (by show w.heap.size<=_;simp) _).setCell (by show w.heap.size<=_;simp) _).drew
end
end Go.Proofs.YtephohhigbfafaaGreatDoor
