/-
  The texts DrRes, DrLaid, TcPlain, DrNum, TcCut, DrPlay, DrRead, DrMem, DrTakes, DrFill, DrIns, DrReg, HdClone, one behind the other, with what is used of them.
-/
import Derived.Test.YtephohhigbfafaaGreatDoorJoined2
import Derived.Test.YtephohhigbfafaaGreatDoorJoined5
import Derived.Test.YtephohhigbfafaaGreatDoorJoined0
import Derived.Test.YtephohhigbfafaaGreatDoorRows
import Derived.Lib.ParseIntB
import Derived.Lib.IndexMore
import Derived.Lib.ParseIntBTie
import Derived.Lib.AtoiTie
import Derived.Lib.AtoiBound
import Derived.Deep.AppendLies
import Derived.Test.YtephohhigbfafaaGreatDoorJoined1
import Derived.Test.YtephohhigbfafaaGreatDoorProg
import Derived.Lib.SliceRun
namespace Go.Proofs.YtephohhigbfafaaGreatDoor
set_option maxHeartbeats 4000000
section
open Go.RowKit
set_option linter.unusedSimpArgs false
set_option linter.unusedVariables false
set_option maxRecDepth 8000
structure LaiD(w:World):Prop extends LaiE w where
 ends:∃t fz,w.heap[0]?=some (.cells #[.string ⟨#[102,117,101,108]⟩,.string ⟨#[100,111,110,101]⟩,.string ⟨#[102,97,117,108,116]⟩] t fz)
theorem LaiD.more{w w':World}(h:LaiD w)(m:More w w'):LaiD w':=by
 obtain⟨a,⟨t,fz,b⟩⟩:=h;exact⟨a.more m,⟨t,fz,J1r m b⟩⟩
theorem LaiD.end_at{w:World}(h:LaiD w)(k:Int)(h0:0<=k)(h2:k<=2):w.cell? ⟨0,k.toNat,none⟩=some (.string (txt (endW k))):=by
 obtain⟨t,fz,e⟩:=h.ends;have hk:k=0\/k=1\/k=2:=by omega
 rw[cell_of_row _ _ _ _ _ _ e];rcases hk with rfl | rfl | rfl<;>rfl

theorem J9e(x y:Int)(w:World)(HL0:Lai w)(hx:B64 x)(hy:B64 y):
  Calls Tryz.prog 50 #[.agg #[V x,V y]] w fun e w'=>e=.returned (.string (txt (fauL (x,y) okW)))/\More w w':=by
 suffices hP:∀P:Ending->World->Prop,(∀w',More w w'->P (.returned (.string (txt (fauL (x,y) okW)))) w')->Calls Tryz.prog 50 #[.agg #[V x,V y]] w P from hP _ (fun w' m=>⟨rfl,m⟩)
 intro P hP0;by_cases h0:x=0
 ·subst h0
  have HP:Hid (∀w',More w w'->P (.returned (.string ⟨#[111,107]⟩)) w'):=hP0;have HE:=J02 (HP.out (w.alloc (.cells #[V 0,V y] 52)) ((More.refl _).alloc _ _));clear hP0 HP HL0 hx hy;go_enter Tryz.func50,Tryz.ntmps50;go_wp2;exact HE.out
 ·have HP:Hid (∀w',More w w'->P (.returned (.string (txt (ansL badW [x,y])))) w'):=fun w' m=>by
   have:=hP0 w' m;rw[fauL,if_neg h0]at this;exact this
  have e1:(x != 0)=true:=by simp[h0]
  have e0:(x==0)=false:=by simp[h0]
  have C:Hid (∀w1,More w w1->Calls Tryz.prog 90 #[.agg #[V x,V y]] w1 fun e w'=>e=.returned (.string (txt (ansL badW [x,y])))/\More w1 w'):=fun w1 m=>J4i x y w1 (HL0.more m) hx hy
  obtain⟨R,HR⟩:∃R,Hid (txt (ansL badW [x,y])=R):=⟨_,rfl⟩;rw[HR.out]at C HP;clear hP0 HL0 hx hy;go_enter Tryz.func50,Tryz.ntmps50;go_wp2_with (fail)
  refine(C.out _ ((More.refl _).alloc _ _)).mono ?_;rintro e w1 ⟨rfl,m1⟩;have HE:=J02 (HP.out w1 (((More.refl _).alloc _ _).trans m1));clear m1 HP C;go_wp2;exact HE.out

theorem Jar(a:Option Addr)(n c:Nat)(x y:Int)(w:World)(HL0:Lai w)(hx:B64 x)(hy:B64 y)(hn:n < 4611686018427387904):
  Calls Tryz.prog 53 #[.slice a n c,.agg #[V x,V y]] w fun e w'=>e=.returned (.string (txt (fauL (x,y) (ansL okW [(n:Int)]))))/\More w w':=by
 suffices hP:∀P:Ending->World->Prop,(∀w',More w w'->P (.returned (.string (txt (fauL (x,y) (ansL okW [(n:Int)]))))) w')->Calls Tryz.prog 53 #[.slice a n c,.agg #[V x,V y]] w P from hP _ (fun w' m=>⟨rfl,m⟩)
 intro P hP0;by_cases h0:x=0
 ·subst h0
  have HP:Hid (∀w',More w w'->P (.returned (.string (txt (ansL okW [(n:Int)])))) w'):=hP0;have C:Hid (∀(w1:World) (b:Nat) (T:TypeId),More w w1->Blk w1 b #[V n] T->Calls Tryz.prog 88 #[.string ⟨#[111,107]⟩,.slice (some ⟨b,0,none⟩) 1 1] w1 fun e w'=>e=.returned (.string (txt (ansL okW [(n:Int)])))/\More w1 w'):=fun w1 b T m h=>Jac okW n w1 b T (HL0.more m) (by decide) (by unfold B64;omega) h
  obtain⟨R,HR⟩:∃R,Hid (txt (ansL okW [(n:Int)])=R):=⟨_,rfl⟩;rw[HR.out]at C HP;clear hP0 HL0 hx hy hn;go_enter Tryz.func53,Tryz.ntmps53;go_wp2_with (fail)
  have hb:=Blk.last (w.alloc (.cells #[V 0,V y] 52)) #[V n] 3;refine(C.out _ _ _ (((More.refl _).alloc _ _).alloc _ _) (by simpa using hb)).mono ?_;rintro e w1 ⟨rfl,m1⟩;have HE:=J02 (HP.out w1 ((((More.refl _).alloc _ _).alloc _ _).trans m1));clear m1 HP C hb;go_wp2;exact HE.out
 ·have HP:Hid (∀w',More w w'->P (.returned (.string (txt (ansL badW [x,y])))) w'):=fun w' m=>by
   have:=hP0 w' m;rw[fauL,if_neg h0]at this;exact this
  have e1:(x != 0)=true:=by simp[h0]
  have e0:(x==0)=false:=by simp[h0]
  have C:Hid (∀w1,More w w1->Calls Tryz.prog 90 #[.agg #[V x,V y]] w1 fun e w'=>e=.returned (.string (txt (ansL badW [x,y])))/\More w1 w'):=fun w1 m=>J4i x y w1 (HL0.more m) hx hy
  obtain⟨R,HR⟩:∃R,Hid (txt (ansL badW [x,y])=R):=⟨_,rfl⟩;rw[HR.out]at C HP;clear hP0 HL0 hx hy hn;go_enter Tryz.func53,Tryz.ntmps53;go_wp2_with (fail)
  refine(C.out _ ((More.refl _).alloc _ _)).mono ?_;rintro e w1 ⟨rfl,m1⟩;have HE:=J02 (HP.out w1 (((More.refl _).alloc _ _).trans m1));clear m1 HP C;go_wp2;exact HE.out

theorem J9f(s:ByteArray)(c:Int)(w:World)(HL0:Lai w)(hc:B64 c)(hn:s.size < 4611686018427387904):
  Calls Tryz.prog 54 #[.string s,V c] w fun e w'=>e=.returned (.string (txt (if c=0 then ansL okW [(s.size:Int)] else ansL badW [c])))/\More w w':=by
 suffices hP:∀P:Ending->World->Prop,(∀w',More w w'->P (.returned (.string (txt (if c=0 then ansL okW [(s.size:Int)] else ansL badW [c])))) w')->Calls Tryz.prog 54 #[.string s,V c] w P from hP _ (fun w' m=>⟨rfl,m⟩)
 intro P hP0;by_cases h0:c=0
 ·subst h0
  have HP:Hid (∀w',More w w'->P (.returned (.string (txt (ansL okW [(s.size:Int)])))) w'):=hP0;obtain⟨n,hsn⟩:∃n,s.size=n:=⟨_,rfl⟩;rw[hsn]at HP hn;have C:Hid (∀(w1:World) (b:Nat) (T:TypeId),More w w1->Blk w1 b #[V n] T->Calls Tryz.prog 88 #[.string ⟨#[111,107]⟩,.slice (some ⟨b,0,none⟩) 1 1] w1 fun e w'=>e=.returned (.string (txt (ansL okW [(n:Int)])))/\More w1 w'):=fun w1 b T m h=>Jac okW n w1 b T (HL0.more m) (by decide) (by unfold B64;omega) h
  obtain⟨R,HR⟩:∃R,Hid (txt (ansL okW [(n:Int)])=R):=⟨_,rfl⟩;rw[HR.out]at C HP;clear hP0 HL0 hc hn;go_enter Tryz.func54,Tryz.ntmps54;go_wp2_with (fail)
  have hb:=Blk.last w #[V n] 3;refine(C.out _ _ _ ((More.refl _).alloc _ _) hb).mono ?_;rintro e w1 ⟨rfl,m1⟩;have HE:=J02 (HP.out w1 (((More.refl _).alloc _ _).trans m1));clear m1 HP C hb;go_wp2;exact HE.out
 ·have HP:Hid (∀w',More w w'->P (.returned (.string (txt (ansL badW [c])))) w'):=fun w' m=>by
   have:=hP0 w' m;rw[if_neg h0]at this;exact this
  have e1:(c != 0)=true:=by simp[h0]
  have e0:(c==0)=false:=by simp[h0]
  have C:Hid (∀(w1:World) (b:Nat) (T:TypeId),More w w1->Blk w1 b #[V c] T->Calls Tryz.prog 91 #[.string ⟨#[98,97,100]⟩,.slice (some ⟨b,0,none⟩) 1 1] w1 fun e w'=>e=.returned (.string (txt (ansL badW [c])))/\More w1 w'):=fun w1 b T m h=>Jf2 badW c w1 b T (HL0.more m) (by decide) hc h
  obtain⟨R,HR⟩:∃R,Hid (txt (ansL badW [c])=R):=⟨_,rfl⟩;rw[HR.out]at C HP;clear hP0 HL0 hc hn;go_enter Tryz.func54,Tryz.ntmps54;go_wp2_with (fail)
  have hb:=Blk.last w #[V c] 45;refine(C.out _ _ _ ((More.refl _).alloc _ _) hb).mono ?_;rintro e w1 ⟨rfl,m1⟩;have HE:=J02 (HP.out w1 (((More.refl _).alloc _ _).trans m1));clear m1 HP C hb;go_wp2;exact HE.out

theorem J9s(fin val steps c:Int)(a:Option Addr)(n cp:Nat)(u:Value)(w:World)(HL0:LaiD w)(hc:B64 c)(hf:c=0->RunB fin val steps n):
  Calls Tryz.prog 51 #[.agg #[V fin,V val,V steps,.slice a n cp,u],V c] w fun e w'=>e=.returned (.string (txt (ranL c fin val steps n)))/\More w w':=by
 suffices hP:∀P:Ending->World->Prop,(∀w',More w w'->P (.returned (.string (txt (ranL c fin val steps n)))) w')->Calls Tryz.prog 51 #[.agg #[V fin,V val,V steps,.slice a n cp,u],V c] w P from hP _ (fun w' m=>⟨rfl,m⟩)
 intro P hP0;obtain⟨W,HW⟩:∃w_:World,Hid (w_=w.alloc (.cells #[V fin,V val,V steps,.slice a n cp,u] 44)):=⟨_,rfl⟩;have HmW:Hid (More w W):=HW.out▸(More.refl _).alloc _ _;have HbW:Hid (Blk W w.heap.size #[V fin,V val,V steps,.slice a n cp,u] 44):=HW.out▸Blk.last _ _ _;obtain⟨N,HN⟩:∃x,Hid (w.heap.size=x):=⟨_,rfl⟩;rw[HN.out]at HbW;by_cases h0:c=0
 ·subst h0
  obtain⟨f0,f2,hv,hs,hn⟩:=hf rfl;have e:ranL 0 fin val steps n=ansL (endW fin) [val,steps,n]:=by simp[ranL]
  have HP:Hid (∀w',More w w'->P (.returned (.string (txt (ansL (endW fin) [val,steps,n])))) w'):=fun w' m=>by rw[<-e];exact hP0 w' m
  have he5:(endW fin).length<=5:=by unfold endW;split<;>decide
  have C1:Hid (∀(w1:World) (b:Nat) (T:TypeId),More w w1->Blk w1 b #[V val] T->Calls Tryz.prog 92 #[.string (txt (endW fin)),.slice (some ⟨b,0,none⟩) 1 1] w1 fun e w'=>e=.returned (.string (txt (ansL (endW fin) [val])))/\More w1 w'):=fun w1 b T m h=>Jo7 (endW fin) val w1 b T (HL0.toLai.more m) (by omega) hv h
  have C2:Hid (∀(w1:World) (b:Nat) (T:TypeId),More w w1->Blk w1 b #[V steps,V n] T->Calls Tryz.prog 88 #[.string (txt (ansL (endW fin) [val])),.slice (some ⟨b,0,none⟩) 2 2] w1 fun e w'=>e=.returned (.string (txt (ansL (endW fin) [val,steps,n])))/\More w1 w'):=fun w1 b T m h=>by
   have:=Jpb (ansL (endW fin) [val]) steps n w1 b T (HL0.toLai.more m) (J87 _ _ he5) hs (by unfold B64;omega) h;rw[Jc3]at this;exact this
  have Hend:Hid (∀w1,More w w1->w1.cell? ⟨0,fin.toNat,none⟩=some (.string (txt (endW fin)))):=fun w1 m=>(HL0.more m).end_at fin f0 f2
  obtain⟨E0,HE0⟩:∃R,Hid (txt (endW fin)=R):=⟨_,rfl⟩;obtain⟨R1,HR1⟩:∃R,Hid (txt (ansL (endW fin) [val])=R):=⟨_,rfl⟩;obtain⟨R2,HR2⟩:∃R,Hid (txt (ansL (endW fin) [val,steps,n])=R):=⟨_,rfl⟩;rw[HR2.out]at C2 HP;rw[HR1.out]at C1 C2;rw[HE0.out]at C1 Hend;have hfin:fin < 3:=by omega
  obtain⟨S,HS⟩:∃S:World->Prop,Hid (∀w',S w'↔More W w'):=⟨_,fun _=>Iff.rfl⟩;have k0:∀i:{ w' // S w' },i.val.cell? ⟨N,0,none⟩=some (V fin):=fun i=>((HS.out _).1 i.property).cell (HbW.out.cell rfl)
  have k1:∀i:{ w' // S w' },i.val.cell? ⟨N,1,none⟩=some (V val):=fun i=>((HS.out _).1 i.property).cell (HbW.out.cell rfl)
  have k2:∀i:{ w' // S w' },i.val.cell? ⟨N,2,none⟩=some (V steps):=fun i=>((HS.out _).1 i.property).cell (HbW.out.cell rfl)
  have k3:∀i:{ w' // S w' },i.val.cell? ⟨N,3,none⟩=some (.slice a n cp):=fun i=>((HS.out _).1 i.property).cell (HbW.out.cell rfl)
  have k4:∀i:{ w' // S w' },i.val.cell? ⟨0,fin.toNat,none⟩=some (.string E0):=fun i=>Hend.out _ (HmW.out.trans ((HS.out _).1 i.property))
  have HS0:S W.drew:=(HS.out _).2 (More.refl _).drew;have hne:Nonempty { w' // S w' }:=⟨⟨_,HS0⟩⟩;obtain⟨wd,Hwd⟩:∃wd:World,Hid (wd=W.drew):=⟨_,rfl⟩;have Hmd:Hid (More W wd):=Hwd.out▸(More.refl _).drew;have HE:Hid (∀w',More W w'->P (.returned (.string R2)) w'):=fun w' m=>HP.out w' (HmW.out.trans m)
  have HF1:Hid (∀(w1:World) (b:Nat) (T:TypeId),More W w1->Blk w1 b #[V val] T->Calls Tryz.prog 92 #[.string E0,.slice (some ⟨b,0,none⟩) 1 1] w1 fun e w'=>e=.returned (.string R1)/\More w1 w'):=fun w1 b T m=>C1.out w1 b T (HmW.out.trans m)
  have HF2:Hid (∀(w1:World) (b:Nat) (T:TypeId),More W w1->Blk w1 b #[V steps,V n] T->Calls Tryz.prog 88 #[.string R1,.slice (some ⟨b,0,none⟩) 2 2] w1 fun e w'=>e=.returned (.string R2)/\More w1 w'):=fun w1 b T m=>C2.out w1 b T (HmW.out.trans m)
  clear HP C1 C2 HbW HmW Hend hP0 hf hc HL0 hv hs hn e he5 f2;go_enter Tryz.func51,Tryz.ntmps51;go_wp2_with (fail)
  rw[<-HW.out];rw[HN.out];refine J10 (S:=S) (by kernel_rfl) HS0 ?_;refine J05 0 rfl (by kernel_rfl) HS0 (by kernel_rfl) (fun K hK=>?_);go_simp;refine hK _ _ ?_;clear hK K;refine J05 1 rfl (by kernel_rfl) HS0 (by kernel_rfl) (fun K hK=>?_);go_simp;refine hK _ _ ?_;clear hK K;refine J05 2 rfl (by kernel_rfl) HS0 (by kernel_rfl) (fun K hK=>?_);go_simp;refine hK _ _ ?_;clear hK K;refine J05 3 rfl (by kernel_rfl) HS0 (by kernel_rfl) (fun K hK=>?_);go_simp;refine hK _ _ ?_;clear hK K;refine J05 4 rfl (by kernel_rfl) HS0 (by kernel_rfl) (fun K hK=>?_);go_simp;refine hK _ _ ?_;clear hK K;refine J05 5 rfl (by kernel_rfl) HS0 (by kernel_rfl) (fun K hK=>?_);go_simp;refine hK _ _ ?_;clear hK K;refine J05 8 rfl (by kernel_rfl) HS0 (by kernel_rfl) (fun K hK=>?_);go_simp;refine hK _ _ ?_;clear hK K;refine J05 9 rfl (by kernel_rfl) HS0 (by kernel_rfl) (fun K hK=>?_);go_simp;refine hK _ _ ?_;clear hK K;refine J05 10 rfl (by kernel_rfl) HS0 (by kernel_rfl) (fun K hK=>?_);go_simp;refine hK _ _ ?_;clear hK K;refine J05 11 rfl (by kernel_rfl) HS0 (by kernel_rfl) (fun K hK=>?_);go_simp;refine hK _ _ ?_;clear hK K;refine J05 12 rfl (by kernel_rfl) HS0 (by kernel_rfl) (fun K hK=>?_);go_simp;refine hK _ _ ?_;clear hK K;rw[<-Hwd.out];clear k0 k1 k2 k3 k4;apply J7d
  ·intro key
   refine J2x 6 13 (by kernel_rfl) ?_ ?_
   ·refine J0b rfl (by kernel_rfl) (fun K hK=>?_);go_simp
    obtain⟨v1,Hv1⟩:∃w_:World,Hid (w_=wd.alloc (.cells #[V val] 2)):=⟨_,rfl⟩;have mv1:More wd v1:=Hv1.out▸(More.refl _).alloc _ _;have bA:Blk v1 wd.heap.size #[V val] 2:=Hv1.out▸Blk.last _ _ _;rw[<-Hv1.out];clear Hv1;refine hK _ _ ((HS.out _).2 (Hmd.out.trans mv1)) ?_;clear hK K;have HbA:=J02 bA;have Hm1:=J02 mv1;clear bA mv1;refine J2x 7 13 (by kernel_rfl) ?_ ?_
    ·refine J0b rfl (by kernel_rfl) (fun K hK=>?_);go_simp
     refine(HF1.out v1 _ _ (Hmd.out.trans Hm1.out) HbA.out).mono ?_;rintro e v2 ⟨rfl,mv2⟩
     go_simp
     refine hK _ _ ((HS.out _).2 ((Hmd.out.trans Hm1.out).trans mv2)) ?_;clear hK K;have Hm2:=J02 mv2;clear mv2;refine J0k 13 (by kernel_rfl) ?_;refine J0b rfl (by kernel_rfl) (fun K hK=>?_);go_simp;obtain⟨v3,Hv3⟩:∃w_:World,Hid (w_=v2.alloc (.cells #[V steps,V n] 3)):=⟨_,rfl⟩;have mv3:More v2 v3:=Hv3.out▸(More.refl _).alloc _ _;have bC:Blk v3 v2.heap.size #[V steps,V n] 3:=Hv3.out▸Blk.last _ _ _;rw[<-Hv3.out];clear Hv3;refine hK _ _ ((HS.out _).2 (((Hmd.out.trans Hm1.out).trans Hm2.out).trans mv3)) ?_;clear hK K;have F:Hid (Blk v3 v2.heap.size #[V steps,V n] 3/\More W v3):=⟨bC,((Hmd.out.trans Hm1.out).trans Hm2.out).trans mv3⟩;clear bC mv3;refine J0p (listed':=#[true,true,true,true,true,true,true,true,true,true,true,true,true,true,false,false]) (by kernel_rfl) ?_;clear HbA Hm1 Hm2;generalize v2.heap.size=gC at F |-;generalize wd.heap.size=gA;clear v1 v2
     revert v3 gC gA
     exact key
    ·refine J0b rfl (by kernel_rfl) (fun K hK=>?_);go_simp
     obtain⟨v2,Hv2⟩:∃w_:World,Hid (w_=v1.alloc (.cells #[V steps,V n] 3)):=⟨_,rfl⟩;have mv2:More v1 v2:=Hv2.out▸(More.refl _).alloc _ _;have bC:Blk v2 v1.heap.size #[V steps,V n] 3:=Hv2.out▸Blk.last _ _ _;rw[<-Hv2.out];clear Hv2;refine hK _ _ ((HS.out _).2 ((Hmd.out.trans Hm1.out).trans mv2)) ?_;clear hK K;have HbC:=J02 bC;have Hm2:=J02 mv2;clear bC mv2;refine J0k 7 (by kernel_rfl) ?_;refine J0b rfl (by kernel_rfl) (fun K hK=>?_);go_simp;refine(HF1.out v2 _ _ ((Hmd.out.trans Hm1.out).trans Hm2.out) (HbA.out.more Hm2.out)).mono ?_;rintro e v3 ⟨rfl,mv3⟩
     go_simp
     refine hK _ _ ((HS.out _).2 (((Hmd.out.trans Hm1.out).trans Hm2.out).trans mv3)) ?_;clear hK K;have F:Hid (Blk v3 v1.heap.size #[V steps,V n] 3/\More W v3):=⟨HbC.out.more mv3,((Hmd.out.trans Hm1.out).trans Hm2.out).trans mv3⟩;refine J0p (listed':=#[true,true,true,true,true,true,true,true,true,true,true,true,true,true,false,false]) (by kernel_rfl) ?_;exact key _ _ F _
   ·refine J0b rfl (by kernel_rfl) (fun K hK=>?_);go_simp
    obtain⟨v1,Hv1⟩:∃w_:World,Hid (w_=wd.alloc (.cells #[V steps,V n] 3)):=⟨_,rfl⟩;have mv1:More wd v1:=Hv1.out▸(More.refl _).alloc _ _;have bC:Blk v1 wd.heap.size #[V steps,V n] 3:=Hv1.out▸Blk.last _ _ _;rw[<-Hv1.out];clear Hv1;refine hK _ _ ((HS.out _).2 (Hmd.out.trans mv1)) ?_;clear hK K;have HbC:=J02 bC;have Hm1:=J02 mv1;clear bC mv1;refine J0k 6 (by kernel_rfl) ?_;refine J0b rfl (by kernel_rfl) (fun K hK=>?_);go_simp;obtain⟨v2,Hv2⟩:∃w_:World,Hid (w_=v1.alloc (.cells #[V val] 2)):=⟨_,rfl⟩;have mv2:More v1 v2:=Hv2.out▸(More.refl _).alloc _ _;have bA:Blk v2 v1.heap.size #[V val] 2:=Hv2.out▸Blk.last _ _ _;rw[<-Hv2.out];clear Hv2;refine hK _ _ ((HS.out _).2 ((Hmd.out.trans Hm1.out).trans mv2)) ?_;clear hK K;have HbA:=J02 bA;have Hm2:=J02 mv2;clear bA mv2;refine J0k 7 (by kernel_rfl) ?_;refine J0b rfl (by kernel_rfl) (fun K hK=>?_);go_simp;refine(HF1.out v2 _ _ ((Hmd.out.trans Hm1.out).trans Hm2.out) HbA.out).mono ?_;rintro e v3 ⟨rfl,mv3⟩
    go_simp
    refine hK _ _ ((HS.out _).2 (((Hmd.out.trans Hm1.out).trans Hm2.out).trans mv3)) ?_;clear hK K;have F:Hid (Blk v3 wd.heap.size #[V steps,V n] 3/\More W v3):=⟨(HbC.out.more Hm2.out).more mv3,((Hmd.out.trans Hm1.out).trans Hm2.out).trans mv3⟩;refine J0p (listed':=#[true,true,true,true,true,true,true,true,true,true,true,true,true,true,false,false]) (by kernel_rfl) ?_;exact key _ _ F _
  ·intro v3 gC F gA
   refine J0k 14 (by kernel_rfl) ?_;refine J0b rfl (by kernel_rfl) (fun K hK=>?_);go_simp;refine(HF2.out v3 _ _ F.out.2 F.out.1).mono ?_;rintro e v4 ⟨rfl,m4⟩
   go_simp
   refine hK _ _ ((HS.out _).2 (F.out.2.trans m4)) ?_;clear hK K;have Hend:=J02 (HE.out v4 (F.out.2.trans m4));refine J05 15 rfl (by kernel_rfl) ((HS.out _).2 (F.out.2.trans m4)) (by kernel_rfl) (fun K hK=>?_);go_simp;refine hK _ _ ?_;clear hK K;refine J4r (by kernel_rfl) ?_;clear m4 F HE HF1 HF2 hne HS0;go_wp2;exact Hend.out
 ·have e:ranL c fin val steps n=ansL badW [c]:=by simp[ranL,h0]
  have HP:Hid (∀w',More w w'->P (.returned (.string (txt (ansL badW [c])))) w'):=fun w' m=>by rw[<-e];exact hP0 w' m
  have e0:(c==0)=false:=by simp[h0]
  have e1:(c != 0)=true:=by simp[h0]
  have C:Hid (∀(w1:World) (b:Nat) (T:TypeId),More w w1->Blk w1 b #[V c] T->Calls Tryz.prog 91 #[.string ⟨#[98,97,100]⟩,.slice (some ⟨b,0,none⟩) 1 1] w1 fun e w'=>e=.returned (.string (txt (ansL badW [c])))/\More w1 w'):=fun w1 b T m h=>Jf2 badW c w1 b T (HL0.toLai.more m) (by decide) hc h
  obtain⟨R,HR⟩:∃R,Hid (txt (ansL badW [c])=R):=⟨_,rfl⟩;rw[HR.out]at C HP;clear hP0 hf hc h0 e HL0 HbW HN;go_enter Tryz.func51,Tryz.ntmps51;go_wp2_with (fail)
  rw[<-HW.out];have hb:=Blk.last W #[V c] 45;have hz:W.heap.size=w.heap.size+1:=by rw[HW.out];simp
  refine(C.out _ _ _ (HmW.out.alloc _ _) (by rw[<-hz];exact hb)).mono ?_;rintro e w1 ⟨rfl,m1⟩;have HE:=J02 (HP.out w1 ((HmW.out.alloc _ _).trans m1));clear m1 HP C hb hz;go_wp2;exact HE.out
theorem Jor:Tryz.prog.cellsOf 159=3:=by kernel_rfl
def endsT:List (List UInt8):=[[102,117,101,108],[100,111,110,101],[102,97,117,108,116]]
theorem Jgk{w:World}{fuel:Nat}{cs:List Value}{p:List MemPlace}(h:DataW.trod (fun _=>()) Tryz.prog w 0 (fun _=>true) false fuel 159 cs=some (.agg (endsT.map fun l=>.lit (.string l)),p)):cs=endsT.map (fun l=>Value.string (txt l)):=by
 cases fuel with
 | zero=>simp[DataW.trod]at h
 | succ fuel=>
  simp only[DataW.trod,Tryz.underlying159,Jor,c_str]at h
  split at h
  ·rename_i hl
   obtain⟨xs,hm,hx⟩:=Option.map_eq_some_iff.1 h
   have hxs:xs.map (·.1)=endsT.map (fun l=>DataW.lit (.string l)):=by
    have:=congrArg Prod.fst hx;simpa using this
   have part:∀i l,endsT[i]?=some l->cs[i]?=some (Value.string (txt l)):=fun i l hi=>by
    have h3:i < 3:=(List.getElem?_eq_some_iff.1 hi).1;obtain⟨b,hb,hf⟩:=Lib.mapM_at hm i i (by simp[h3]);have h1:(xs.map (·.1))[i]?=some b.1:=by simp[hb]
    rw[hxs,List.getElem?_map,hi]at h1;obtain⟨b1,b2⟩:=b;obtain rfl:=Option.some.inj h1;obtain⟨z,hz,hx',_⟩:=DataW.trod_string Tryz.underlying9 hf;have e0:z.data.toList=l:=by injection hx' with e0 _;injection e0 with e0;injection e0 with e0;exact e0.symm
    rw[<-J78 e0];exact J6p (by simpa using hz)
   have hcl:cs.length=3:=by omega
   match cs,hcl,part with
   | [c0,c1,c2],_,part=>
    have p0:=part 0 _ rfl;have p1:=part 1 _ rfl;have p2:=part 2 _ rfl;simp at p0 p1 p2;subst p0 p1 p2
    rfl
  ·cases h
theorem Jl7{w:World}{r:List (String × DataW Unit)}{n:String}(hn:Tryz.prog.globalNamed n=some 0)(h:laidMet Tryz.prog ((n,.agg (endsT.map fun l=>.lit (.string l)))::r) w):∃t fz,w.heap[0]?=some (.cells #[.string ⟨#[102,117,101,108]⟩,.string ⟨#[100,111,110,101]⟩,.string ⟨#[102,97,117,108,116]⟩] t fz):=by
 obtain⟨g,t,cs,fuel,p,h1,h2,h3,h4⟩:=J57 h;obtain rfl:=Option.some.inj (h1.symm.trans hn);obtain rfl:=Option.some.inj (h2.symm.trans (show(Tryz.prog.globals[0]?).map (·.type)=some 159 by kernel_rfl));have e:=Jgk h4;obtain⟨t,fz,hh⟩:=J6r hn h3;refine⟨t,fz,?_⟩;have:cs=#[.string ⟨#[102,117,101,108]⟩,.string ⟨#[100,111,110,101]⟩,.string ⟨#[102,97,117,108,116]⟩]:=by rw[<-Array.toArray_toList (xs:=cs),e];rfl
 rw[<-this];exact hh
theorem Jl8{w:World}{r:List (String × DataW Unit)}{n:String}{d:DataW Unit}(hn:Tryz.prog.globalNamed n=some 7)(h:laidMet Tryz.prog ((n,d)::r) w):8<=w.heap.size:=by
 obtain⟨g,t,cs,fuel,p,h1,h2,h3,h4⟩:=J57 h;obtain rfl:=Option.some.inj (h1.symm.trans hn);obtain⟨t,fz,hh⟩:=J6r hn h3;have:=(Array.getElem?_eq_some_iff.1 hh).1;omega
theorem Jcl{w:World}(h:laidMetH Tryz.prog Rows.driveOnRow.laid w):LaiD w/\8<=w.heap.size:=by
 have h:laidMet Tryz.prog Rows.driveOnRow.laid w:=h;exact⟨⟨⟨⟨Jix (by kernel_rfl) h.tail.tail.tail.tail.tail,Jnn (by kernel_rfl) h.tail.tail⟩,Jiw (by kernel_rfl) (by kernel_rfl) h.tail.tail.tail.tail,Jiw (by kernel_rfl) (by kernel_rfl) h.tail.tail.tail⟩,Jl7 (by kernel_rfl) h.tail.tail.tail.tail.tail.tail⟩,Jl8 (by kernel_rfl) h.tail⟩
end
section
open Go.RowKit
set_option linter.unusedSimpArgs false
set_option linter.unusedVariables false
def valF(a:Nat)(l:List UInt8):Nat:=l.foldl (fun a c=>a*10+(c.toNat - 48)) a
theorem J6q(a:Nat)(c:UInt8)(r:List UInt8):valF a (c::r)=valF (a*10+(c.toNat - 48)) r:=List.foldl_cons ..
theorem Jdg:∀(y x:List UInt8),valF (valK x x.length) y=valK (x++y) (x++y).length
 | [],x=>by rw[List.append_nil];rfl
 | c::y,x=>by
  rw[J6q,show valK x x.length*10+(c.toNat - 48)=valK (x++[c]) (x++[c]).length by rw[J97];omega,Jdg y (x++[c]),List.append_assoc]
  rfl
theorem Jjt:∀(y:List UInt8) (a:Nat),a<=valF a y
 | [],a=>Nat.le_refl _
 | c::y,a=>by rw[J6q];have:=Jjt y (a*10+(c.toNat - 48));omega
theorem Jcy(M:Nat)(hM:9223372036854775808<=M):∀(y:List UInt8) (a:Nat),(∀b ∈ y,48<=b.toNat/\b.toNat<=57)->valF a y<=9223372036854775808->Lib.parseUintM M a y=.ok (valF a y)
 | [],a,_,_=>rfl
 | c::y,a,hd,hv=>by
  have h1:=hd c (by simp);rw[J6q]at hv;have h2:=Jjt y (a*10+(c.toNat - 48));rw[Lib.parseUintM,if_pos h1,if_neg (by omega),if_neg (by omega),J6q];exact Jcy M hM y _ (fun b hb=>hd b (by simp[hb])) hv
theorem Jjb{v:Int}(h:B64 v):Lib.parseIntB 64 (digI v)=.ok v:=by
 unfold B64 at h;have e:(10:Nat) ^ 20=100000000000000000000:=by decide
 obtain⟨⟨d1,d2,_⟩,d3,_⟩:=Jaq 20 v.natAbs (by rw[e];omega) (by omega)
 have hv:valF 0 (dig 20 v.natAbs)=v.natAbs:=by
  have:=Jdg (dig 20 v.natAbs) [];rw[List.nil_append,d3]at this;exact this
 have hp:Lib.parseUintB 64 (dig 20 v.natAbs)=.ok v.natAbs:=by
  unfold Lib.parseUintB;rw[if_neg (by intro e;rw[e]at d1;simp at d1),Jcy _ (by decide) _ _ d2 (by rw[hv];omega),hv]
 have e63:(2:Nat) ^ (64 - 1)=9223372036854775808:=by decide
 unfold digI;by_cases c:v < 0
 ·rw[if_pos c,List.singleton_append,Lib.parseIntB]
  simp only[show((45:UInt8).toNat=43\/(45:UInt8).toNat=45)=True from by decide,if_true,hp];show(if¬(45:UInt8).toNat=45/\2 ^ (64 - 1)<=v.natAbs then _ else if(45:UInt8).toNat=45/\2 ^ (64 - 1) < v.natAbs then _ else Lib.NumEnd.ok (if(45:UInt8).toNat=45 then -(v.natAbs:Int) else v.natAbs))=_;rw[if_neg (fun q=>q.1 rfl),if_neg (by rw[e63];omega),if_pos (show(45:UInt8).toNat=45 from rfl)]
  congr 1
  omega
 ·rw[if_neg c,List.nil_append]
  generalize hd:dig 20 v.natAbs=d at *;cases d with
  | nil=>simp at d1
  | cons b r=>
   have hb:=d2 b (by simp);rw[Lib.parseIntB];simp only[if_neg (show¬(b.toNat=43\/b.toNat=45) by omega),hp];show(if¬b.toNat=45/\2 ^ (64 - 1)<=v.natAbs then _ else if b.toNat=45/\2 ^ (64 - 1) < v.natAbs then _ else Lib.NumEnd.ok (if b.toNat=45 then -(v.natAbs:Int) else v.natAbs))=_;rw[if_neg (by rw[e63];omega),if_neg (by omega),if_neg (by omega)]
   congr 1
   omega
theorem J7j{l:List UInt8}{v:Int}{most:Int}(h:NumIs most l v):(l.length:Int)<=most+1:=by
 obtain⟨b,d,s,k,_⟩:=h;have:=k.most;rcases s with⟨_,rfl⟩ | ⟨_,rfl,_⟩
 ·simp;omega
 ·omega
section
variable {σ:Type} (st:σ->UInt8->Int->σ)
end
end
section
open Go.RowKit
set_option linter.unusedSimpArgs false
set_option linter.unusedVariables false
set_option maxRecDepth 8000
theorem Jfe{v:Int}(h:-999999<=v/\v<=999999):Lib.atoi (digI v)=some v:=by
 have h1:=Jjb (b6 h)
 have hl:(digI v).length<=18:=by
  have:=J7j (num6.2 ⟨rfl,h⟩:NumIs 6 (digI v) v);omega
 rw[Lib.parseIntB_64,Lib.atoiAll_short _ hl]at h1;cases e:Lib.atoi (digI v) with
 | none=>rw[e]at h1;cases h1
 | some n=>rw[e]at h1;cases h1;rfl
theorem Jh9(w:World)(t:TypeId)(s:ByteArray):More w (Lib.bytesWorld w t s):=Lib.bytesWorld_below w t s
theorem Jgu(n:Int)(hn:B64 n)(w:World)(h:Lai w):Calls Tryz.prog 123 #[V n] w fun e w'=>e=.returned (.string (txt (digI n)))/\More w w':=by
 obtain⟨t,fz,hp⟩:=h.pow;refine(Any.strconv_Itoa Tryz.laysM171 n hn.1 hn.2 w ?_).mono ?_
 ·show World.var? _ _ _=_
  unfold World.var?;rw[show Tryz.prog.globalNamed _=some 3 by kernel_rfl];show(match w.heap[3]? with | some (.cells cs _ _)=>some cs | _=>none)=_;rw[hp]
 ·rintro e w' ⟨rfl,k,os,rfl⟩
  refine⟨by rw[Jfy hn],?_⟩;exact⟨rfl,rfl,rfl,by simp[Sort.grow],fun i hi=>by simp[Sort.grow,Array.getElem?_append,hi]⟩

theorem Jb0(l:List UInt8)(w:World)(HL0:LaiE w)(hl:l.length < 4611686018427387904):
  Calls Tryz.prog 87 #[.string (txt l)] w fun e w'=>∃(v:Int) (ok:Bool),e=.returned (.tuple #[V v,.bool ok])/\J63 6 l v ok/\More w w':=by
 suffices hP:∀P:Ending->World->Prop,(∀(v:Int) (ok:Bool) w',J63 6 l v ok->More w w'->P (.returned (.tuple #[V v,.bool ok])) w')->Calls Tryz.prog 87 #[.string (txt l)] w P from hP _ (fun v ok w' a b=>⟨v,ok,rfl,a,b⟩)
 intro P hP0;have HP:Hid (∀(v:Int) (ok:Bool) w',J63 6 l v ok->More w w'->P (.returned (.tuple #[V v,.bool ok])) w'):=hP0;have hsz:=J0e l;clear hP0;obtain⟨ss,Hss⟩:∃x,Hid (txt l=x):=⟨_,rfl⟩;obtain⟨ln,Hln⟩:∃x,Hid (l.length=x):=⟨_,rfl⟩;rw[Hss.out,Hln.out]at hsz;rw[Hss.out];rw[Hln.out]at hl;by_cases h7:7 < ln
 ·have h7i:(7:Int) < ln:=by omega
  have HE:=J02 (HP.out 0 false w (.inr ⟨rfl,fun v' h=>by have:=J7j h;have:=Hln.out;omega⟩) (More.refl _));clear HP;go_enter Tryz.func87,Tryz.ntmps87;go_wp2;exact HE.out
 ·have h7i:¬(7:Int) < ln:=by omega
  cases ha:Lib.atoi l with
  | none=>
   have CA:Hid (Calls Tryz.prog 122 #[.string ss] w fun e w'=>∃(t:TypeId) (N:Nat),e=.returned (.tuple #[V 0,.iface t (.pointer (some ⟨N,0,none⟩))])/\More w w'):=by
    obtain⟨tp,p,t,fz,e⟩:=HL0.syn;rw[<-Hss.out];refine(Any.strconv_Atoi_err_var Tryz.laysC172 (txt l) (by rw[J0e];have:=Hln.out;omega) ha tp p w (Jpc (by kernel_rfl) e)).mono ?_;rintro e w' ⟨N,rfl,_,_,b⟩;exact⟨_,N,rfl,b⟩
   have HE:=J02 (fun w' m=>HP.out 0 false w' (.inr ⟨rfl,fun v' h=>by rw[(num6.1 h).1,Jfe (num6.1 h).2]at ha;cases ha⟩) m);clear HP ha HL0;go_enter Tryz.func87,Tryz.ntmps87;go_wp2_with (fail)
   refine CA.out.mono ?_;rintro e w1 ⟨t,N,rfl,m1⟩;have HF:=J02 (HE.out w1 m1);clear HE CA m1;go_wp2;exact HF.out
  | some n=>
   have hb:B64 n:=by
    have:=Lib.atoi_bound ha (by have:=Hln.out;omega);unfold B64;omega
   have CA:Hid (Calls Tryz.prog 122 #[.string ss] w fun e w'=>e=.returned (.tuple #[V n,.nilIface])/\More w w'):=by
    rw[<-Hss.out];refine(Any.strconv_Atoi Tryz.lays172 (txt l) n (by rw[J0e];have:=Hln.out;omega) ha w).mono ?_;rintro e w' ⟨rfl,t,rfl⟩;exact⟨rfl,Jh9 _ _ _⟩
   have CI:Hid (∀w1,More w w1->Calls Tryz.prog 123 #[V n] w1 fun e w'=>e=.returned (.string (txt (digI n)))/\More w1 w'):=fun w1 m=>Jgu n hb w1 (HL0.toLai.more m)
   have HE:Hid (∀ok w',(ok=true↔l=digI n /\ -999999<=n/\n<=999999)->More w w'->P (.returned (.tuple #[V n,.bool ok])) w'):=fun ok w' h m=>HP.out n ok w' (by
    cases ok with
    | true=>exact .inl ⟨rfl,num6.2 (h.1 rfl)⟩
    | false=>
     refine .inr ⟨rfl,fun v' hv=>?_⟩;have hv:=num6.1 hv;have e:=Jfe hv.2;rw[<-hv.1,ha]at e;obtain rfl:=Option.some.inj e;exact absurd (h.2 hv) (by simp)) m
   clear HP ha HL0;by_cases hd:l=digI n
   ·rw[<-hd,Hss.out]at CI
    by_cases h1:-999999<=n
    ·by_cases h2:n<=999999
     ·have HF:=J02 (fun w2 m=>HE.out true w2 ⟨fun _=>⟨hd,h1,h2⟩,fun _=>rfl⟩ m)
      clear HE hd;go_enter Tryz.func87,Tryz.ntmps87;go_wp2_with (fail)
      refine CA.out.mono ?_;rintro e w1 ⟨rfl,m1⟩;have CI1:=J02 (CI.out w1 m1);have Hm1:=J02 m1;clear CA CI m1;go_wp2_with (fail)
      refine CI1.out.mono ?_;rintro e w2 ⟨rfl,m2⟩;have HG:=J02 (HF.out w2 (Hm1.out.trans m2));clear HF CI1 m2;go_wp2;exact HG.out
     ·have HF:=J02 (fun w2 m=>HE.out false w2 ⟨fun h=>by simp at h,fun h=>absurd h.2.2 h2⟩ m)
      have d2:decide (n<=999999)=false:=decide_eq_false h2;clear HE hd h2;go_enter Tryz.func87,Tryz.ntmps87;go_wp2_with (fail)
      refine CA.out.mono ?_;rintro e w1 ⟨rfl,m1⟩;have CI1:=J02 (CI.out w1 m1);have Hm1:=J02 m1;clear CA CI m1;go_wp2_with (fail)
      refine CI1.out.mono ?_;rintro e w2 ⟨rfl,m2⟩;have HG:=J02 (HF.out w2 (Hm1.out.trans m2));clear HF CI1 m2;go_wp2;exact HG.out
    ·have HF:=J02 (fun w2 m=>HE.out false w2 ⟨fun h=>by simp at h,fun h=>absurd h.2.1 h1⟩ m)
     have d2:decide (-999999<=n)=false:=decide_eq_false h1;clear HE hd h1;go_enter Tryz.func87,Tryz.ntmps87;go_wp2_with (fail)
     refine CA.out.mono ?_;rintro e w1 ⟨rfl,m1⟩;have CI1:=J02 (CI.out w1 m1);have Hm1:=J02 m1;clear CA CI m1;go_wp2_with (fail)
     refine CI1.out.mono ?_;rintro e w2 ⟨rfl,m2⟩;have HG:=J02 (HF.out w2 (Hm1.out.trans m2));clear HF CI1 m2;go_wp2;exact HG.out
   ·have HF:=J02 (fun w2 m=>HE.out false w2 ⟨fun h=>by simp at h,fun h=>absurd h.1 hd⟩ m)
    have hne:¬txt (digI n)=ss:=fun e=>hd (by
     have:(txt (digI n)).data.toList=ss.data.toList:=by rw[e]
     rw[<-Hss.out]at this;exact this.symm)
    obtain⟨ds,Hds⟩:∃x,Hid (txt (digI n)=x):=⟨_,rfl⟩;have e0:¬ds.toList=ss.toList:=fun e=>hd (by rw[<-Hds.out,<-Hss.out,ByteArray.toList_mk,ByteArray.toList_mk]at e;exact e.symm)
    have e1:(ds.toList==ss.toList)=false:=by simp only[beq_eq_false_iff_ne];exact e0
    rw[Hds.out]at CI hne;clear HE hd;go_enter Tryz.func87,Tryz.ntmps87;go_wp2_with (fail)
    refine CA.out.mono ?_;rintro e w1 ⟨rfl,m1⟩;have CI1:=J02 (CI.out w1 m1);have Hm1:=J02 m1;clear CA CI m1;go_wp2_with (fail)
    refine CI1.out.mono ?_;rintro e w2 ⟨rfl,m2⟩;have HG:=J02 (HF.out w2 (Hm1.out.trans m2));clear HF CI1 m2;go_wp2;exact HG.out
theorem Jfu(b:UInt8):∀l:List UInt8,(¬b ∈ l/\Lib.indexByte l b = -1)\/(∃x y,l=x++b::y/\¬b ∈ x/\Lib.indexByte l b=x.length)
 | []=>.inl ⟨by simp,rfl⟩
 | c::l=>by
  rw[Lib.indexByte];by_cases e:c=b
  ·subst e
   right;exact⟨[],l,rfl,by simp,by simp⟩
  ·rcases Jfu b l with⟨h1,h2⟩ | ⟨x,y,h1,h2,h3⟩
   ·left
    refine⟨fun q=>?_,by simp[e,h2]⟩;rcases List.mem_cons.1 q with q | q
    ·exact e q.symm
    ·exact h1 q
   ·right
    refine⟨c::x,y,by rw[h1];rfl,fun q=>?_,?_⟩
    ·rcases List.mem_cons.1 q with q | q
     ·exact e q.symm
     ·exact h2 q
    ·rw[h3]
     have:¬(x.length:Int) = -1:=by omega
     simp[e,this]
def J7b(l:List UInt8)(b:UInt8)(d1 d2:ByteArray)(ok:Bool):Prop:=(ok=true/\∃x y,l=x++b::y/\¬b ∈ x/\d1=txt x/\d2=txt y)\/(ok=false/\¬b ∈ l/\d1=txt l/\d2=ByteArray.empty)

theorem Jkb(l:List UInt8)(hl:l.length < 4611686018427387904)(b:UInt8)(w:World):Calls Tryz.prog 43 #[.string (txt l),.string ⟨#[b]⟩] w fun e w'=>∃(d1 d2:ByteArray) (ok:Bool),e=.returned (.tuple #[.string d1,.string d2,.bool ok])/\J7b l b d1 d2 ok/\More w w':=by
 suffices hP:∀P:Ending->World->Prop,(∀(d1 d2:ByteArray) (ok:Bool) w',J7b l b d1 d2 ok->More w w'->P (.returned (.tuple #[.string d1,.string d2,.bool ok])) w')->Calls Tryz.prog 43 #[.string (txt l),.string ⟨#[b]⟩] w P from hP _ (fun d1 d2 ok w' h m=>⟨d1,d2,ok,rfl,h,m⟩)
 intro P hP0;have HP:Hid (∀(d1 d2:ByteArray) (ok:Bool) w',J7b l b d1 d2 ok->More w w'->P (.returned (.tuple #[.string d1,.string d2,.bool ok])) w'):=hP0;have CI:Hid (Calls Tryz.prog 85 #[.string (txt l),.string ⟨#[b]⟩] w fun e w'=>e=.returned (V (Lib.indexByte l b))/\w'=w):=Any.stringslite_Index_one Tryz.lays219 (txt l) b w;clear hP0;have hbs:(⟨#[b]⟩:ByteArray).size=1:=rfl;obtain⟨bs,Hbs⟩:∃x,Hid ((⟨#[b]⟩:ByteArray)=x):=⟨_,rfl⟩;rw[Hbs.out]at CI hbs |-;rcases Jfu b l with⟨h1,h2⟩ | ⟨x,y,h1,h2,h3⟩
 ·have HE:=J02 (fun w' m=>HP.out (txt l) ByteArray.empty false w' (.inr ⟨rfl,h1,rfl,rfl⟩) m)
  obtain⟨ss,Hss⟩:∃x,Hid (txt l=x):=⟨_,rfl⟩;rw[Hss.out]at CI HE |-;rw[h2]at CI;clear HP h1 h2;go_enter Tryz.func43,Tryz.ntmps43;go_wp2_with (fail)
  refine CI.out.mono ?_;rintro e w' ⟨rfl,rfl⟩;clear CI;have HF:=J02 (HE.out w' (More.refl _));clear HE;go_wp2;refine bodyPost_ret (v:=.tuple #[.string ss,.string ByteArray.empty,.bool false]) (by simp[results,Tryz.results43,go_sem, *];try rfl) rfl ?_;exact HF.out
 ·have HE:=J02 (fun w' m=>HP.out (txt x) (txt y) true w' (.inl ⟨rfl,x,y,h1,h2,rfl,rfl⟩) m)
  rw[h3]at CI;have hsz:=J0e l;have e1:=(J62 x (b::y)).1;have e2:=(J62 (x++[b]) y).2;rw[<-h1]at e1;rw[show x++[b]++y=l by rw[h1];simp,show(x++[b]).length=x.length+1 by simp]at e2;have hxl:x.length+1<=l.length:=by rw[h1];simp
  obtain⟨ss,Hss⟩:∃x,Hid (txt l=x):=⟨_,rfl⟩;obtain⟨tx,Htx⟩:∃z,Hid (txt x=z):=⟨_,rfl⟩;obtain⟨ty,Hty⟩:∃z,Hid (txt y=z):=⟨_,rfl⟩;obtain⟨k,Hk⟩:∃z,Hid (x.length=z):=⟨_,rfl⟩;obtain⟨n,Hn⟩:∃z,Hid (l.length=z):=⟨_,rfl⟩;rw[Hss.out]at CI e1 e2 hsz |-;rw[Htx.out]at HE e1;rw[Hty.out]at HE e2;rw[Hk.out]at CI e1 e2 hxl;rw[Hn.out]at e2 hsz hxl hl;have h0:(0:Int)<=k:=by omega
  have hk:(k:Int)<=n:=by omega
  have hk':k<=n:=by omega
  have hk1:wrap64 ((k:Int)+1)=(k:Int)+1:=by unfold wrap64;omega
  have hk2:(k:Int)+1<=n:=by omega
  have hk3:(0:Int)<=(k:Int)+1:=by omega
  have hk4:((k:Int)+1).toNat=k+1:=by omega
  clear HP h1 h2 h3 Hss Htx Hty Hk Hn;go_enter Tryz.func43,Tryz.ntmps43;go_wp2_with (fail)
  refine CI.out.mono ?_;rintro e w' ⟨rfl,rfl⟩;clear CI;have HF:=J02 (HE.out w'.drew (More.refl _).drew);clear HE;go_wp2
  go_region
  all_goals
   go_wp2;refine bodyPost_ret (v:=.tuple #[.string tx,.string ty,.bool true]) (by simp[results,Tryz.results43,go_sem, *]) rfl ?_;exact HF.out

theorem Jca(l:List UInt8)(hl:l.length < 4611686018427387904)(b:UInt8)(w:World):Calls Tryz.prog 19 #[.string (txt l),.string ⟨#[b]⟩] w fun e w'=>∃(d1 d2:ByteArray) (ok:Bool),e=.returned (.tuple #[.string d1,.string d2,.bool ok])/\J7b l b d1 d2 ok/\More w w':=by
 suffices hP:∀P:Ending->World->Prop,(∀(d1 d2:ByteArray) (ok:Bool) w',J7b l b d1 d2 ok->More w w'->P (.returned (.tuple #[.string d1,.string d2,.bool ok])) w')->Calls Tryz.prog 19 #[.string (txt l),.string ⟨#[b]⟩] w P from hP _ (fun d1 d2 ok w' h m=>⟨d1,d2,ok,rfl,h,m⟩)
 intro P hP0;have HP:Hid (∀(d1 d2:ByteArray) (ok:Bool) w',J7b l b d1 d2 ok->More w w'->P (.returned (.tuple #[.string d1,.string d2,.bool ok])) w'):=hP0;have CI:=J02 (Jkb l hl b w);clear hP0;obtain⟨bs,Hbs⟩:∃x,Hid ((⟨#[b]⟩:ByteArray)=x):=⟨_,rfl⟩;obtain⟨ss,Hss⟩:∃x,Hid (txt l=x):=⟨_,rfl⟩;rw[Hbs.out,Hss.out]at CI |-;go_enter Tryz.func19,Tryz.ntmps19;go_wp2_with (fail)
 refine CI.out.mono ?_;rintro e w1 ⟨d1,d2,ok,rfl,h,m⟩;have HE:=J02 (HP.out d1 d2 ok w1 h m);clear CI HP h m;go_wp2;refine bodyPost_ret (v:=.tuple #[.string d1,.string d2,.bool ok]) (by simp[results,Tryz.results19,go_sem, *]) rfl ?_;exact HE.out
theorem J4o(p:Prg):(hardC p).length=J0c p p.cl:=by simp[hardC]
theorem Jku(p:Prg){i:Nat}(h:i < J0c p p.cl):(hardC p)[i]?=some (hardL p i):=by simp[hardC,h]
theorem Jn4{p:Prg}{l:KV}:∀(n a:Nat),0<=(scanK p l n a).2/\(scanK p l n a).2<=(a:Int)+n
 | 0,a=>by rw[scanK];exact⟨by decide,by dsimp only;omega⟩
 | n+1,a=>by
  have h:=Jn4 (p:=p) (l:=l) n (a+1);rw[scanK];cases l a with
  | none=>dsimp only;omega
  | some s=>
   dsimp only
   split
   ·omega
   ·dsimp only;omega
theorem Told.b64{p:Prg}{f:Int × Int}(h:Told p f)(hc:p.cl<=600):B64 f.1/\B64 f.2:=by
 rcases h with⟨_,rfl⟩ | ⟨_,l,_,rfl⟩
 ·exact⟨by unfold B64;decide,by unfold B64;decide⟩
 ·have h1:=J8x (p:=p) (l:=l) p.cl 0
  have h2:=Jn4 (p:=p) (l:=l) p.cl 0;unfold B64 J1h;omega
theorem Jlp{l row:List Int}{n:Int}(h:n ∈ over l row):n ∈ l\/n ∈ row:=by
 unfold over at h;rcases List.mem_append.1 h with h | h
 ·exact .inl h
 ·exact .inr (List.mem_of_mem_drop h)
theorem J38{l row:List Int}(h:l.length<=row.length):(over l row).length=row.length:=by simp[over];omega
theorem WordTo.wf{h:List UInt8}{L:List Int}{x y:Sta}{a:List UInt8}(k:WordTo h L x y a)(hL:∀n ∈ L,-999999<=n/\n<=999999)(w:Wf x):Wf y:=by
 have no:No x y a->Wf y:=fun k=>by rw[k.1];exact w
 rcases k.cases with⟨rfl,q⟩ | ⟨rfl,q⟩ | ⟨rfl,q⟩ | ⟨rfl,q⟩ | ⟨rfl,q⟩ | ⟨rfl,q⟩ | ⟨rfl,q⟩ | ⟨rfl,q⟩ | ⟨rfl,q⟩ | ⟨rfl,q⟩ | ⟨n,q⟩
 ·rcases q with⟨u,v,rfl,r,c⟩ | ⟨n,q⟩
  ·rcases r with⟨_,r1,r2,_⟩ | ⟨m,r1,r2,_⟩
   ·rw[show y=x from Jn5 r1 c r2];exact w
   ·obtain⟨u0,u6,v0,v1,r6⟩:=m
    obtain⟨yr,yc,ym⟩:=y;cases r1;cases r2;cases c
    have hk:u.toNat=0\/u.toNat=1\/u.toNat=2\/u.toNat=3\/u.toNat=4\/u.toNat=5\/u.toNat=6:=by omega
    refine⟨by simp;omega,by simp[w.ml],fun r hr=>?_,fun l hl=>?_,fun l hl n hn=>?_,w.cl,w.ins⟩
    ·rcases List.mem_append.1 hr with hr | hr
     ·exact w.log r hr
     ·simp at hr;subst hr;exact⟨u0,u6⟩
    ·rcases List.mem_append.1 hl with hl | hl
     ·exact w.len l hl
     ·simp at hl;subst hl
      rw[List.length_replicate];rcases hk with e | e | e | e | e | e | e<;>rw[e]<;>decide
    ·rcases List.mem_append.1 hl with hl | hl
     ·exact w.wd l hl n hn
     ·simp at hl;subst hl
      rw[(List.mem_replicate.1 hn).2];exact J1g
  ·exact no q
 ·rcases q with⟨r,l,rfl,t,c,rfl,_⟩ | ⟨n,q⟩
  ·have hr:r.toNat < x.ms.length:=by have:=t.1;have:=t.2;omega
   have hrow:=J2y x.ms r.toNat [] hr;refine⟨w.rl,by simp[w.ml],w.log,fun l' hl=>?_,fun l' hl n hn=>?_,w.cl,w.ins⟩
   ·rcases List.mem_or_eq_of_mem_set hl with hl | rfl
    ·exact w.len l' hl
    ·rw[J38 c];exact w.len _ hrow
   ·rcases List.mem_or_eq_of_mem_set hl with hl | rfl
    ·exact w.wd l' hl n hn
    ·rcases Jlp hn with hn | hn
     ·exact b6 (hL n (by simp[hn]))
     ·exact w.wd _ hrow n hn
  ·exact no q
 ·rcases q with⟨r,rfl,t,rfl,_⟩ | ⟨n,q⟩
  ·exact w
  ·exact no q
 ·rcases q with⟨o,u,v,t,n,rfl,c,rfl,_⟩ | ⟨n,q⟩
  ·refine⟨w.rl,w.ml,w.log,w.len,w.wd,by simp;omega,fun i hi=>?_⟩
   rcases List.mem_append.1 hi with hi | hi
   ·exact w.ins i hi
   ·simp at hi;subst hi
    exact⟨b6 (hL o (by simp)),b6 (hL u (by simp)),b6 (hL v (by simp)),b6 (hL t (by simp)),b6 (hL n (by simp))⟩
  ·exact no q
 ·rcases q with⟨f,_,rfl,_⟩ | ⟨n,q⟩
  ·exact w
  ·exact no q
 ·rcases q with⟨f,l,_,rfl,_⟩ | ⟨n,q⟩
  ·exact w
  ·exact no q
 ·rcases q with⟨_,rfl,_⟩ | ⟨n,q⟩
  ·exact w
  ·exact no q
 ·rcases q with⟨_,f,t,rfl,_⟩ | ⟨n,q⟩
  ·by_cases h0:f.1=0
   ·rw[if_pos h0]
    have ok:=(t.ok h0).1;have hf:=Jil (J6c x.prg) ok w.fit;have hm:=J2o x.prg x.prg.cl;refine⟨w.rl,w.ml,w.log,w.len,w.wd,?_,fun i hi=>?_⟩
    ·have:=ok.2.2.1
     show(hardC x.prg).length<=600;rw[J4o];omega
    ·obtain⟨j,hj,rfl⟩:=List.mem_map.1 hi
     exact hf.fit.ins j (List.mem_range.1 hj)
   ·rw[if_neg h0];exact w
  ·exact no q
 ·rcases q with⟨_,rfl,_⟩ | ⟨n,q⟩
  ·exact w
  ·exact no q
 ·rcases q with⟨_,rfl,_⟩ | ⟨n,q⟩
  ·exact w
  ·exact no q
 ·exact no q
theorem SLineTo.wf{x y:Sta}{l a:List UInt8}(h:SLineTo x l y a)(w:Wf x):Wf y:=by
 obtain⟨k,fs,_,⟨L,n,h⟩ | ⟨_,h⟩⟩:=h
 ·exact h.wf n.2 w
 ·rw[h.1];exact w

theorem J33(s:List UInt8)(l:List Int)(n k:Nat)(hs:s.length<=n)(hl:l.length<=k):(ansL s l).length<=n+22*k:=by
 have:=J2t l;rw[ansL,List.length_append];omega
theorem J8s(c f v s:Int)(n:Nat):(ranL c f v s n).length<=2000:=by
 unfold ranL
 split
 ·have:=J33 (endW f) [v,s,n] 5 3 (by unfold endW;split<;>decide) (by simp)
  omega
 ·have:=J33 badW [c] 3 1 (by decide) (by simp)
  omega
theorem J5m(f:Int × Int)(a:List UInt8)(h:a.length<=2000):(fauL f a).length<=2000:=by
 unfold fauL
 split
 ·exact h
 ·have:=J33 badW [f.1,f.2] 3 2 (by decide) (by simp)
  omega
theorem WordTo.short{h:List UInt8}{L:List Int}{x y:Sta}{a:List UInt8}(k:WordTo h L x y a)(w:Wf x):a.length<=2000:=by
 have no:No x y a->a.length<=2000:=fun k=>by rw[k.2];decide
 have ok1:∀n:Int,(ansL okW [n]).length<=2000:=fun n=>by
  have:=J33 okW [n] 2 1 (by decide) (by simp);omega
 rcases k.cases with⟨rfl,q⟩ | ⟨rfl,q⟩ | ⟨rfl,q⟩ | ⟨rfl,q⟩ | ⟨rfl,q⟩ | ⟨rfl,q⟩ | ⟨rfl,q⟩ | ⟨rfl,q⟩ | ⟨rfl,q⟩ | ⟨rfl,q⟩ | ⟨n,q⟩
 ·rcases q with⟨u,v,rfl,r,c⟩ | ⟨n,q⟩
  ·rcases r with⟨_,_,_,rfl⟩ | ⟨_,_,_,rfl⟩
   ·decide
   ·exact ok1 _
  ·exact no q
 ·rcases q with⟨r,l,_,t,c,_,rfl⟩ | ⟨n,q⟩
  ·decide
  ·exact no q
 ·rcases q with⟨r,_,t,_,rfl⟩ | ⟨n,q⟩
  ·have hr:r.toNat < x.ms.length:=by have:=t.1;have:=t.2;omega
   have:=J33 isW _ 2 64 (by decide) (w.len _ (J2y x.ms r.toNat [] hr));omega
  ·exact no q
 ·rcases q with⟨o,u,v,t,n,_,c,_,rfl⟩ | ⟨n,q⟩
  ·exact ok1 _
  ·exact no q
 ·rcases q with⟨f,_,_,c,_,rfl⟩ | ⟨n,q⟩
  ·exact J8s _ _ _ _ _
  ·exact no q
 ·rcases q with⟨f,l,_,_,c,_,rfl⟩ | ⟨n,q⟩
  ·exact J8s _ _ _ _ _
  ·exact no q
 ·rcases q with⟨_,_,f,_,rfl⟩ | ⟨n,q⟩
  ·exact J5m _ _ (by decide)
  ·exact no q
 ·rcases q with⟨_,f,_,_,rfl⟩ | ⟨n,q⟩
  ·exact J5m _ _ (ok1 _)
  ·exact no q
 ·rcases q with⟨_,_,⟨_,rfl⟩ | ⟨_,rfl⟩⟩ | ⟨n,q⟩
  ·exact ok1 _
  ·decide
  ·exact no q
 ·rcases q with⟨_,_,f,_,rfl⟩ | ⟨n,q⟩
  ·exact J5m _ _ (ok1 _)
  ·exact no q
 ·exact no q
theorem SLineTo.short{x y:Sta}{l a:List UInt8}(h:SLineTo x l y a)(w:Wf x):a.length<=2000:=by
 obtain⟨k,fs,_,⟨L,n,h⟩ | ⟨_,h⟩⟩:=h
 ·exact h.short w
 ·rw[h.2];decide

theorem Jma{p:Prg}{m:Mem}{L L':List Int}{f c:Int}(h:Wr1 p m L f c)(n:¬ScOk L)(n':¬ScOk L'):Wr1 p m L' f c/\¬c=0:=by
 rcases h with⟨a,rfl⟩ | ⟨a,b,rfl⟩ | ⟨a,b,e,rfl⟩
 ·exact⟨.inl ⟨a,rfl⟩,by decide⟩
 ·exact⟨.inr (.inl ⟨a,.inr n',rfl⟩),by decide⟩
 ·exact absurd e n
theorem WordTo.long{h:List UInt8}{L:List Int}{x y:Sta}{a:List UInt8}(k:WordTo h (L.take 2002) x y a)(w:Wf x)(hL:2002 < L.length):WordTo h L x y a:=by
 have hl:(L.take 2002).length=2002:=by simp;omega
 have hne:¬L.take 2002=[]:=fun e=>by rw[e]at hl;simp at hl
 have hn0:¬L=[]:=fun e=>by rw[e]at hL;simp at hL
 rcases k.cases with⟨rfl,q⟩ | ⟨rfl,q⟩ | ⟨rfl,q⟩ | ⟨rfl,q⟩ | ⟨rfl,q⟩ | ⟨rfl,q⟩ | ⟨rfl,q⟩ | ⟨rfl,q⟩ | ⟨rfl,q⟩ | ⟨rfl,q⟩ | ⟨n,q⟩
 ·rcases q with⟨u,v,e,r,c⟩ | ⟨n,q⟩
  ·rw[e]at hl;simp at hl
  ·exact J4t (.inr ⟨by omega,q⟩)
 ·rcases q with⟨r,l,e,t,c,_,_⟩ | ⟨n,q⟩
  ·have hr:r.toNat < x.ms.length:=by have:=t.1;have:=t.2;omega
   have h64:=w.len _ (J2y x.ms r.toNat [] hr);rw[e]at hl;simp at hl;omega
  ·refine J6u (.inr ⟨fun⟨r,l,e,t,c⟩=>?_,q⟩)
   have hr:r.toNat < x.ms.length:=by have:=t.1;have:=t.2;omega
   have h64:=w.len _ (J2y x.ms r.toNat [] hr);rw[e]at hL;simp at hL;omega
 ·rcases q with⟨r,e,_⟩ | ⟨n,q⟩
  ·rw[e]at hl;simp at hl
  ·exact J6z (.inr ⟨fun⟨r,e,_⟩=>by rw[e]at hL;simp at hL,q⟩)
 ·rcases q with⟨o,u,v,t,n,e,_⟩ | ⟨n,q⟩
  ·rw[e]at hl;simp at hl
  ·exact J9v (.inr ⟨fun e=>by have:=e.1;omega,q⟩)
 ·rcases q with⟨f,e,_⟩ | ⟨n,q⟩
  ·rw[e]at hl;simp at hl
  ·exact Jd5 (.inr ⟨by omega,q⟩)
 ·rcases q with⟨f,l,e,rfl,c,hw,rfl⟩ | ⟨e,q⟩
  ·obtain⟨g,r,rfl⟩:∃g r,L=g::r:=by
    cases L with
    | nil=>exact absurd rfl hn0
    | cons g r=>exact⟨g,r,rfl⟩
   have e':f=g/\l=r.take 2001:=by
    simp only[List.take_succ_cons,List.cons.injEq]at e;exact⟨e.1.symm,e.2.symm⟩
   obtain⟨rfl,rfl⟩:=e';have hr:2001 < r.length:=by simp at hL;omega
   obtain⟨h1,h2⟩:=Jma (L':=r) hw (fun s=>by have:=s.1;simp at this;omega) (fun s=>by have:=s.1;omega);exact J64 (.inl ⟨f,r,rfl,rfl,c,h1,by simp[ranL,h2]⟩)
  ·exact absurd e hne
 ·rcases q with⟨e,_⟩ | ⟨n,q⟩
  ·exact absurd e hne
  ·exact J68 (.inr ⟨hn0,q⟩)
 ·rcases q with⟨e,_⟩ | ⟨n,q⟩
  ·exact absurd e hne
  ·exact J6w (.inr ⟨hn0,q⟩)
 ·rcases q with⟨e,_⟩ | ⟨n,q⟩
  ·exact absurd e hne
  ·exact J79 (.inr ⟨hn0,q⟩)
 ·rcases q with⟨e,_⟩ | ⟨n,q⟩
  ·exact absurd e hne
  ·exact J6y (.inr ⟨hn0,q⟩)
 ·exact J80 n q

def PlayTo:Sta->List (List UInt8)->Sta->List UInt8->Prop
 | x,[],y,a=>y=x/\a=[]
 | x,l::ls,y,a=>∃z b c,SLineTo x l z b/\PlayTo z ls y c/\a=b++10::c
theorem PlayTo.one:∀{ls:List (List UInt8)} {x y y':Sta} {a a':List UInt8},PlayTo x ls y a->PlayTo x ls y' a'->y=y'/\a=a'
 | [],_,_,_,_,_,h,k=>⟨h.1.trans k.1.symm,h.2.trans k.2.symm⟩
 | l::ls,_,_,_,_,_,⟨z,b,c,h1,h2,h3⟩,⟨z',b',c',k1,k2,k3⟩=>by
  obtain⟨rfl,rfl⟩:=h1.one k1;obtain⟨rfl,rfl⟩:=h2.one k2;exact⟨rfl,h3.trans k3.symm⟩
theorem PlayTo.snoc:∀{ls:List (List UInt8)} {x y z:Sta} {l a b:List UInt8},PlayTo x ls y a->SLineTo y l z b->PlayTo x (ls++[l]) z (a++(b++[10]))
 | [],x,y,z,l,a,b,h,k=>by
  obtain⟨rfl,rfl⟩:=h;exact⟨z,b,[],k,⟨rfl,rfl⟩,by simp⟩
 | l'::ls,x,y,z,l,a,b,⟨u,c,d,h1,h2,h3⟩,k=>⟨u,c,_,h1,h2.snoc k,by rw[h3];simp⟩
theorem PlayTo.front:∀{ls ls':List (List UInt8)} {x y:Sta} {a:List UInt8},PlayTo x (ls++ls') y a->∃z b c,PlayTo x ls z b/\PlayTo z ls' y c/\a=b++c
 | [],ls',x,y,a,h=>⟨x,[],a,⟨rfl,rfl⟩,h,rfl⟩
 | l::ls,ls',x,y,a,⟨u,c,d,h1,h2,h3⟩=>by
  obtain⟨z,b,e,k1,k2,k3⟩:=h2.front;exact⟨z,c++10::b,e,⟨u,c,b,h1,k1,rfl⟩,k2,by rw[h3,k3];simp⟩
def J0v(s:List UInt8):List (List UInt8):=if(J09 10 s).getLastD []=[] then(J09 10 s).dropLast else J09 10 s
def sta0:Sta:=⟨[],[],[]⟩
theorem wf0:Wf sta0:=⟨by decide,rfl,fun r hr=>by simp[sta0]at hr,fun r hr=>by simp[sta0]at hr,fun r hr=>by simp[sta0]at hr,by decide,fun r hr=>by simp[sta0]at hr⟩
def ScriptTo(s a:List UInt8):Prop:=∃y,PlayTo sta0 ((J0v s).take 40) y a
theorem ScriptTo.one{s a a':List UInt8}(h:ScriptTo s a)(k:ScriptTo s a'):a=a':=by
 obtain⟨y,h⟩:=h;obtain⟨y',k⟩:=k;exact(h.one k).2
theorem J2j(b:UInt8)(s:List UInt8):¬J09 b s=[]:=fun e=>by
 have:=(J2i b s).1;rw[e]at this;simp at this
theorem J4a(b:UInt8)(t:List UInt8):∀s:List UInt8,J09 b (s++b::t)=J09 b s++J09 b t
 | []=>by simp[J09]
 | c::s=>by
  rw[List.cons_append];simp only[J09];by_cases e:c=b
  ·rw[if_pos e,if_pos e,J4a b t s];rfl
  ·rw[if_neg e,if_neg e,J4a b t s]
   cases h:J09 b s with
   | nil=>exact absurd h (J2j b s)
   | cons p r=>rfl
theorem Jj0(s:List UInt8):J0v (s++[10])=J09 10 s:=by
 have h:J09 10 (s++[10])=J09 10 s++[[]]:=J4a 10 [] s;unfold J0v;rw[h]
 simp
theorem J9y(s t:List UInt8):J0v (s++10::t)=J09 10 s++J0v t:=by
 have h:J09 10 (s++10::t)=J09 10 s++J09 10 t:=J4a 10 t s
 have hl:(J09 10 s++J09 10 t).getLastD []=(J09 10 t).getLastD []:=by
  obtain⟨q,r,e⟩:∃q r,J09 10 t=q++[r]:=by
   have:=List.dropLast_concat_getLast (J2j 10 t);exact⟨_,_,this.symm⟩
  rw[e,<-List.append_assoc]
  simp
 unfold J0v;rw[h,hl]
 split
 ·rw[List.dropLast_append_of_ne_nil (J2j 10 t)]
 ·rfl
theorem ScriptTo.front{s t a b:List UInt8}(h:ScriptTo (s++[10]) a)(k:ScriptTo (s++10::t) b):∃c,b=a++c:=by
 obtain⟨y,h⟩:=h;obtain⟨z,k⟩:=k;rw[Jj0]at h;rw[J9y,List.take_append]at k;obtain⟨u,c,d,k1,_,rfl⟩:=k.front;obtain⟨_,rfl⟩:=h.one k1;exact⟨d,rfl⟩
def numC(L:List Int):List Value:=L.map (fun x=>Value.int .i64 x)
theorem Jbc(L M:List Int):numC (L++M)=numC L++numC M:=by simp[numC]
theorem NumsR.snoc{fs:List (List UInt8)}{L:List Int}{f:List UInt8}{v:Int}(h:NumsR fs L)(k:NumIs 6 f v):NumsR (fs++[f]) (L++[v]):=by
 have k:=num6.1 k;refine⟨by rw[h.1,k.1];simp,fun n hn=>?_⟩;rcases List.mem_append.1 hn with hn | hn
 ·exact h.2 n hn
 ·simp at hn;subst hn;exact k.2
theorem NumsR.none{fs gs:List (List UInt8)}{f:List UInt8}(k:∀v,¬NumIs 6 f v)(L:List Int):¬NumsR (fs++f::gs) L:=by
 intro h;have hm:f ∈ L.map digI:=by rw[<-h.1];simp
 obtain⟨v,hv,rfl⟩:=List.mem_map.1 hm;exact k v (num6.2 ⟨rfl,h.2 v hv⟩)
theorem Jfv:(Tryz.prog.info? 3).map (fun i=>(i.zero,i.size,i.bytes))=some (some (V 0),1,8):=by kernel_rfl
theorem Jjr{L:List Int}{v:Int}{n:Nat}(h:L.length < n):(L++[v]).take n=L.take n++[v]:=by
 rw[List.take_of_length_le (by simp;omega),List.take_of_length_le (by omega)]
theorem Jdd{L:List Int}{v:Int}{n:Nat}(h:n<=L.length):(L++[v]).take n=L.take n:=by
 rw[List.take_append_of_le_length h]
def Jhw(l:List UInt8)(d:ByteArray)(va:Option Addr)(n vc:Nat)(ok:Bool)(w':World):Prop:=
 (ok=true/\∃h fs L vb,J09 32 l=h::fs/\NumsR fs L/\d=txt h/\n=(L.take 2002).length/\n<=vc/\SIn w' va vb 0 (L.take 2002)/\(0 < n->OfType w' (some vb) 3))\/(ok=false/\∃h fs,J09 32 l=h::fs/\∀L,¬NumsR fs L)
theorem Jek{w:World}{B:Nat}{T:TypeId}{va:Option Addr}{n vc:Nat}{L:List Int}(h:w.ownsRow B T 1 (.slice va n vc) n (numC L))(hn:n=L.length):∃vb,n<=vc/\SIn w va vb 0 L/\(0 < n->OfType w (some vb) T):=by
 by_cases h0:0 < n
 ·obtain⟨g,c,hv,_,_⟩:=h.form h0
  have hv':va=some ⟨g,0,none⟩:=by cases hv;rfl
  subst hv';refine⟨g,?_,⟨fun _=>rfl,fun j x hx=>?_⟩,fun _=>J1u h⟩
  ·rcases h.2 with⟨q,e⟩ | ⟨g',cap,cur,q,_,_,e,_⟩
   ·omega
   ·cases q;exact e
  ·have hj:j < n:=by rw[hn];exact(List.getElem?_eq_some_iff.1 hx).1
   rw[Nat.zero_add,World.ownsRow.cellAt h j (by omega)];simp[numC,hx]
 ·have e:n=0:=by omega
  refine⟨0,by omega,⟨fun q=>by omega,fun j x hx=>?_⟩,fun q=>absurd q h0⟩;have:=(List.getElem?_eq_some_iff.1 hx).1;omega

theorem Jhj(l:List UInt8)(w:World)(HL0:LaiE w)(hl:l.length < 4611686018427387904):
  Calls Tryz.prog 45 #[.string (txt l)] w fun e w'=>∃(d:ByteArray) (va:Option Addr) (n vc:Nat) (ok:Bool),e=.returned (.tuple #[.string d,.slice va n vc,.bool ok])/\Jhw l d va n vc ok w'/\More w w':=by
 suffices hP:∀P:Ending->World->Prop,(∀(d:ByteArray) (va:Option Addr) (n vc:Nat) (ok:Bool) w',Jhw l d va n vc ok w'->More w w'->P (.returned (.tuple #[.string d,.slice va n vc,.bool ok])) w')->Calls Tryz.prog 45 #[.string (txt l)] w P from hP _ (fun d va n vc ok w' a b=>⟨d,va,n,vc,ok,rfl,a,b⟩)
 intro P hP0;have HP:Hid (∀(d:ByteArray) (va:Option Addr) (n vc:Nat) (ok:Bool) w',Jhw l d va n vc ok w'->More w w'->P (.returned (.tuple #[.string d,.slice va n vc,.bool ok])) w'):=hP0;have HL:Hid (LaiE w):=HL0
 have CC:Hid (∀(s:List UInt8) (d:ByteArray),d=txt s->s.length<=l.length->∀w1,Calls Tryz.prog 19 #[.string d,.string ⟨#[32]⟩] w1 fun e w'=>∃(d1 d2:ByteArray) (ok:Bool),e=.returned (.tuple #[.string d1,.string d2,.bool ok])/\J7b s 32 d1 d2 ok/\More w1 w'):=fun s d e hs w1=>by
  subst e;exact Jca s (by omega) 32 w1
 have CN:Hid (∀(s:List UInt8) (d:ByteArray),d=txt s->s.length<=l.length->∀w1,More w w1->Calls Tryz.prog 87 #[.string d] w1 fun e w'=>∃(v:Int) (ok:Bool),e=.returned (.tuple #[V v,.bool ok])/\J63 6 s v ok/\More w1 w'):=fun s d e hs w1 m=>by
  subst e;exact Jb0 s w1 (HL0.more m) (by omega)
 have C0:=J02 (CC.out l (txt l) rfl (Nat.le_refl _) w);obtain⟨i0,hi1,hi2,hi3,hi4⟩:=info_parts Jfv;have Hi:Hid (Tryz.prog.info? 3=some i0/\i0.zero=some (V 0)/\i0.size=1/\i0.bytes=8):=⟨hi1,hi2,hi3,hi4⟩;clear hP0 HL0 hi1 hi2 hi3 hi4;obtain⟨ss,Hss⟩:∃x,Hid (txt l=x):=⟨_,rfl⟩;rw[Hss.out]at C0 |-;go_enter Tryz.func45,Tryz.ntmps45;go_wp2_with (fail)
 refine C0.out.mono ?_;rintro e w1 ⟨d1,d2,ok,rfl,hc,m1⟩
 have H1:Hid (∃(h:List UInt8) (rest:List UInt8),d1=txt h/\d2=txt rest/\rest.length<=l.length/\(ok=true->rest.length < l.length/\J09 32 l=h::J09 32 rest)/\(ok=false->J09 32 l=[h])):=by
  rcases hc with⟨rfl,x,y,e,n,rfl,rfl⟩ | ⟨rfl,n,rfl,rfl⟩
  ·refine⟨x,y,rfl,rfl,by rw[e];simp;omega,fun _=>⟨by rw[e];simp;omega,by rw[e];exact J73 32 y x n⟩,fun q=>by cases q⟩
  ·exact⟨l,[],rfl,rfl,by simp,fun q=>(by cases q),fun _=>J4b 32 l n⟩
 have Hm1:=J02 m1;obtain⟨h,rest0,e1,e2,e3,e4,e5⟩:=H1.out;have HH:Hid (d1=txt h/\d2=txt rest0/\rest0.length<=l.length/\(ok=true->rest0.length < l.length/\J09 32 l=h::J09 32 rest0)/\(ok=false->J09 32 l=[h])):=⟨e1,e2,e3,e4,e5⟩;clear C0 hc m1 H1 e1 e2 e3 e4 e5;go_wp2_with (fail)
 go_loopg [6,7,8] (if ok then rest0.length+1 else 0) (fun g rv mv nv wr=>∃(d:ByteArray) (more:Bool) (va:Option Addr) (n vc:Nat),rv=.string d/\mv=.bool more/\nv=.slice va n vc/\n<=2002/\Hid (∃(rest:List UInt8) (fs:List (List UInt8)) (L:List Int),d=txt rest/\rest.length<=l.length/\g=(if more then rest.length+1 else 0)/\NumsR fs L/\n=(L.take 2002).length/\wr.ownsRow w1.heap.size 3 1 (.slice va n vc) n (numC (L.take 2002))/\More w1 wr/\(more=true->J09 32 l=h::(fs++J09 32 rest))/\(more=false->J09 32 l=h::fs)))
 case atStart=>
  refine⟨d2,ok,none,0,0,rfl,rfl,rfl,by omega,rest0,[],[],HH.out.2.1,HH.out.2.2.1,rfl,⟨rfl,fun n hn=>by simp at hn⟩,rfl,World.ownsRow_nil _ _ _ _,More.refl _,fun q=>(HH.out.2.2.2.1 q).2,HH.out.2.2.2.2⟩
 case round=>
  obtain⟨d,more,va,n,vc,rfl,rfl,rfl,hn2,Hr⟩:=hrel;cases more with
  | false=>
   have HE:Hid (P (.returned (.tuple #[.string d1,.slice va n vc,.bool true])) wr):=by
    obtain⟨rest,fs,L,_,_,_,a3,a4,a5,a6,_,a8⟩:=Hr.out;obtain⟨vb,b1,b2,b3⟩:=Jek a5 a4;exact HP.out _ _ _ _ _ wr (.inl ⟨rfl,h,fs,L,vb,a8 rfl,a3,HH.out.1,a4,b1,b2,b3⟩) (Hm1.out.trans a6)
   clear HP CC CN Hr;go_wp2;refine bodyPost_ret (v:=.tuple #[.string d1,.slice va n vc,.bool true]) (by simp[results,Tryz.results45,go_sem, *]) rfl ?_;exact HE.out
  | true=>
   obtain⟨rest,fs,L,a1,a2,ag,a3,a4,a5,a6,a7,_⟩:=Hr.out;have HA:Hid (d=txt rest/\rest.length<=l.length/\gk=rest.length+1/\NumsR fs L/\n=(L.take 2002).length/\wr.ownsRow w1.heap.size 3 1 (.slice va n vc) n (numC (L.take 2002))/\More w1 wr/\J09 32 l=h::(fs++J09 32 rest)):=⟨a1,a2,by simpa using ag,a3,a4,a5,a6,a7 rfl⟩;have C1:=J02 (CC.out rest d a1 a2 wr);clear Hr a1 a2 ag a3 a4 a5 a6 a7 CC;go_wp2_with (fail)
   refine C1.out.mono ?_;rintro e w2 ⟨f1,f2,ok2,rfl,hc,m2⟩
   have H2:Hid (∃(f:List UInt8) (rest2:List UInt8),f1=txt f/\f2=txt rest2/\f.length<=l.length/\rest2.length<=l.length/\(ok2=true->rest2.length < rest.length/\J09 32 rest=f::J09 32 rest2)/\(ok2=false->J09 32 rest=[f])):=by
    have hr:=HA.out.2.1;rcases hc with⟨rfl,x,y,e,n,rfl,rfl⟩ | ⟨rfl,n,rfl,rfl⟩
    ·have hx:x.length+y.length+1=rest.length:=by rw[e];simp;omega
     refine⟨x,y,rfl,rfl,by omega,by omega,fun _=>⟨by omega,by rw[e];exact J73 32 y x n⟩,fun q=>by cases q⟩
    ·exact⟨rest,[],rfl,rfl,hr,by simp,fun q=>(by cases q),fun _=>J4b 32 rest n⟩
   obtain⟨f,rest2,e1,e2,e3,e4,e5,e6⟩:=H2.out;have Hm2:Hid (More wr w2):=m2;have C2:=J02 (CN.out f f1 e1 e3 w2 ((Hm1.out.trans HA.out.2.2.2.2.2.2.1).trans m2));have HF:Hid (f2=txt rest2/\rest2.length<=l.length/\(ok2=true->rest2.length < rest.length/\J09 32 rest=f::J09 32 rest2)/\(ok2=false->J09 32 rest=[f])):=⟨e2,e4,e5,e6⟩;clear C1 hc m2 H2 e1 e2 e3 e4 e5 e6 CN;go_wp2_with (fail)
   refine C2.out.mono ?_;rintro e w3 ⟨v,ok3,rfl,hv,m3⟩;have Hm3:Hid (More w1 w3):=(HA.out.2.2.2.2.2.2.1.trans Hm2.out).trans m3;have Hm13:Hid (More wr w3):=Hm2.out.trans m3;have HV:Hid (J63 6 f v ok3):=hv;clear C2 hv m3;cases ok3 with
   | false=>
    have HE:Hid (P (.returned (.tuple #[.string ⟨#[]⟩,.slice none 0 0,.bool false])) w3):=by
     obtain⟨q,hv⟩:false=false/\∀v',¬NumIs 6 f v':=by
      rcases HV.out with⟨q,_⟩ | q
      ·cases q
      ·exact q
     have hs:∃gs,J09 32 rest=f::gs:=by
      cases ok2 with
      | true=>exact⟨_,(HF.out.2.2.1 rfl).2⟩
      | false=>exact⟨[],HF.out.2.2.2 rfl⟩
     obtain⟨gs,hs⟩:=hs;refine HP.out _ _ _ _ _ w3 (.inr ⟨rfl,h,_,HA.out.2.2.2.2.2.2.2,fun L'=>?_⟩) (Hm1.out.trans Hm3.out);rw[hs];exact NumsR.none hv L'
    clear HP;go_wp2;refine bodyPost_ret (v:=.tuple #[.string ⟨#[]⟩,.slice none 0 0,.bool false]) (by simp[results,Tryz.results45,go_sem, *]) rfl ?_;exact HE.out
   | true=>
    have HNum:Hid (NumsR (fs++[f]) (L++[v])):=HA.out.2.2.2.1.snoc (by
     rcases HV.out with⟨_,q⟩ | ⟨q,_⟩
     ·exact q
     ·cases q)
    have HS:Hid ((ok2=true->J09 32 l=h::((fs++[f])++J09 32 rest2))/\(ok2=false->J09 32 l=h::(fs++[f]))):=by
     refine⟨fun q=>?_,fun q=>?_⟩
     ·rw[HA.out.2.2.2.2.2.2.2,(HF.out.2.2.1 q).2];simp
     ·rw[HA.out.2.2.2.2.2.2.2,HF.out.2.2.2 q]
    have HM:Hid ((if ok2 then rest2.length+1 else 0) < gk):=by
     have h1:=HA.out.2.2.1;show _ < _;cases ok2 with
     | true=>have:=(HF.out.2.2.1 rfl).1;simp;omega
     | false=>simp;omega
    have Hnx:Hid (∀(va':Option Addr) (n' vc':Nat) w4,n'<=2002->n'=((L++[v]).take 2002).length->w4.ownsRow w1.heap.size 3 1 (.slice va' n' vc') n' (numC ((L++[v]).take 2002))->More w1 w4->∃(d:ByteArray) (more:Bool) (va:Option Addr) (n vc:Nat),Value.string f2=.string d/\Value.bool ok2=.bool more/\Value.slice va' n' vc'=.slice va n vc/\n<=2002/\Hid (∃(rest:List UInt8) (fs:List (List UInt8)) (L:List Int),d=txt rest/\rest.length<=l.length/\(if ok2 then rest2.length+1 else 0)=(if more then rest.length+1 else 0)/\NumsR fs L/\n=(L.take 2002).length/\w4.ownsRow w1.heap.size 3 1 (.slice va n vc) n (numC (L.take 2002))/\More w1 w4/\(more=true->J09 32 l=h::(fs++J09 32 rest))/\(more=false->J09 32 l=h::fs))):=fun va' n' vc' w4 q0 q1 q2 q3=>⟨f2,ok2,va',n',vc',rfl,rfl,rfl,q0,rest2,fs++[f],L++[v],HF.out.1,HF.out.2.1,rfl,HNum.out,q1,q2,q3,HS.out.1,HS.out.2⟩
    have HO:Hid (w3.ownsRow w1.heap.size 3 1 (.slice va n vc) n (numC (L.take 2002))/\n=(L.take 2002).length):=⟨J44 HA.out.2.2.2.2.2.1 Hm13.out,HA.out.2.2.2.2.1⟩;clear HP HV HF HS HNum HA Hm13 Hm2;obtain⟨gn,Hgn⟩:∃x,Hid ((if ok2 then rest2.length+1 else 0)=x):=⟨_,rfl⟩;rw[Hgn.out]at HM Hnx;have hgn:gn < gk:=HM.out;by_cases hlt:n < 2002
    ·have hlti:(n:Int) < 2002:=by omega
     have hL:L.length < 2002:=by have:=HO.out.2;simp at this;omega
     obtain⟨W,HW⟩:∃w_:World,Hid (w_=w3.alloc (.cells #[V v] 3)):=⟨_,rfl⟩;have HmW:Hid (More w3 W):=HW.out▸(More.refl _).alloc _ _;have HbW:Hid (Blk W w3.heap.size #[V v] 3):=HW.out▸Blk.last _ _ _;have HOW:Hid (W.ownsRow w1.heap.size 3 1 (.slice va n vc) n (numC (L.take 2002))):=J44 HO.out.1 HmW.out;have Hnews:Hid (∀j u,(numC [v])[j]?=some u->W.cell? ((⟨w3.heap.size,0,none⟩:Addr).add j)=some u):=World.news_of_block HbW.out;have Hlo:Hid (w1.heap.size<=W.heap.size):=Nat.le_trans Hm3.out.size HmW.out.size;have HMw:Hid (More w1 W):=Hm3.out.trans HmW.out;have HbL:Hid (∀k,(Value.slice va n vc).ownBlock=some k->w1.heap.size<=k):=fun k hk=>(HOW.out.lt k hk).1
     have Hq:Hid (∀g3 cap3 w4,w4.ownsRow w1.heap.size 3 1 (.slice (some ⟨g3,0,none⟩) (n+1) cap3) (n+1) (numC (L.take 2002)++numC [v])->More w1 w4->n+1=((L++[v]).take 2002).length/\w4.ownsRow w1.heap.size 3 1 (.slice (some ⟨g3,0,none⟩) (n+1) cap3) (n+1) (numC ((L++[v]).take 2002))):=fun g3 cap3 w4 o m=>by
      rw[Jjr hL,Jbc];exact⟨by rw[List.length_append,<-HO.out.2];rfl,o⟩
     go_wp2_with (at_builtin;rw[<-HW.out];refine wpList_append_lies _ rfl (.tmp 35) (.tmp 37) 49 rfl w1.heap.size 3 i0 (V 0) 1 8 Tryz.underlying49 Hi.out.1 Hi.out.2.1 Hi.out.2.2.1 Hi.out.2.2.2 rfl (by decide) (.slice va n vc) n (numC (L.take 2002)) rfl HOW.out ⟨w3.heap.size,0,none⟩ 1 1 (numC [v]) rfl rfl Hnews.out (by intro u hu;simp[numC]at hu;subst hu;rfl) (by omega) (by unfold maxLen;omega) (by omega) Hlo.out W.heap.size rfl ?_;intro g3 cap3 w4 own3 gr3 hat3 hlt3;have HX:=J02 (Hnx.out (some ⟨g3,0,none⟩) (n+1) cap3 w4 (by omega) (Hq.out g3 cap3 w4 own3 (HMw.out.grownBy gr3 HbL.out)).1 (Hq.out g3 cap3 w4 own3 (HMw.out.grownBy gr3 HbL.out)).2 (HMw.out.grownBy gr3 HbL.out));clear own3 gr3 hat3 hlt3)
     go_roundg gn
     case measure=>omega
     case rel=>exact HX.out
    ·have hlti:¬(n:Int) < 2002:=by omega
     have d2:decide ((n:Int) < 2002)=false:=decide_eq_false hlti;have hL:2002<=L.length:=by have:=HO.out.2;simp at this;omega
     have HX:=J02 (Hnx.out va n vc w3 hn2 (by rw[Jdd hL];exact HO.out.2) (by rw[Jdd hL];exact HO.out.1) Hm3.out);clear Hnx;go_wp2;go_roundg gn
     case measure=>omega
     case rel=>exact HX.out
def Own5(t:TypeId):Prop:=t=63\/t=76\/t=41\/t=35\/t=2
def Spar(w w':World):Prop:=∀(k:Nat) (o:Obj),w.heap[k]?=some o->(∀c t fz,o=Obj.cells c t fz->¬Own5 t)->w'.heap[k]?=some o
theorem Spar.of{w w':World}(m:More w w'):Spar w w':=fun k o h _=>J1r m h
theorem Spar.trans{a b c:World}(h:Spar a b)(k:Spar b c):Spar a c:=fun i o hi ho=>k i o (h i o hi ho) ho
theorem Spar.grown{w w1 w2:World}{row:Option Nat}{T:TypeId}(h:Spar w w1)(g:w1.grownBy w2 row)(ht:OfType w1 row T)(h5:Own5 T):Spar w w2:=fun k o hk ho=>by
 have h1:=h k o hk ho;rw[g.block k (Array.getElem?_eq_some_iff.1 h1).1 ?_]
 ·exact h1
 ·intro e
  obtain⟨c,fz,q⟩:=ht k e.symm;rw[h1]at q;exact ho c T fz (Option.some.inj q) h5
theorem Spar.set{w w1:World}{b:Nat}{c:Array Value}{T:TypeId}(h:Spar w w1)(hb:Blk w1 b c T)(h5:Own5 T)(o:Nat)(v:Value):Spar w (w1.setCell ⟨b,o,none⟩ v):=h.grown (J0l _ _ _ _) hb.ofType h5
theorem own5P:Own5 63:=.inl rfl
theorem own5R:Own5 76:=.inr (.inl rfl)
theorem own5I:Own5 41:=.inr (.inr (.inl rfl))
theorem own5S:Own5 35:=.inr (.inr (.inr (.inl rfl)))
theorem own5W:Own5 2:=.inr (.inr (.inr (.inr rfl)))
theorem not5{t:TypeId}(h1:t≠63)(h2:t≠76)(h3:t≠41)(h4:t≠35)(h5:t≠2):¬Own5 t:=by
 rintro(h | h | h | h | h)
 ·exact h1 h
 ·exact h2 h
 ·exact h3 h
 ·exact h4 h
 ·exact h5 h

structure LaiG(G:Nat)(w:World):Prop extends LaiD w where
 ahead:8<=G
theorem LaiG.low{G:Nat}{w w':World}(h:LaiG G w)(b:Below G w w'):LaiG G w':=by
 have hg:=h.ahead;have k:∀(i:Nat) (o:Obj),i < 8->w.heap[i]?=some o->w'.heap[i]?=some o:=fun i o hi e=>(Below.block b i (by omega)).trans e
 obtain⟨t1,f1,e1⟩:=h.kinds;obtain⟨t2,f2,e2⟩:=h.pow;obtain⟨a3,b3,t3,f3,e3⟩:=h.syn;obtain⟨a4,b4,t4,f4,e4⟩:=h.rng;obtain⟨t5,f5,e5⟩:=h.ends;exact⟨⟨⟨⟨⟨t1,f1,k _ _ (by decide) e1⟩,⟨t2,f2,k _ _ (by decide) e2⟩⟩,⟨a3,b3,t3,f3,k _ _ (by decide) e3⟩,⟨a4,b4,t4,f4,k _ _ (by decide) e4⟩⟩,⟨t5,f5,k _ _ (by decide) e5⟩⟩,hg⟩
abbrev Dp(B G:Nat)(x:Sta)(rv cv mv:Value)(w:World):Prop:=Ply 63 B G x.rs x.cs x.ms rv cv mv w
structure DAns(B G:Nat)(w:World)(y:Sta)(w':World):Prop where
 ply:∃rv cv mv,Dp B G y rv cv mv w'
 low:Below G w w'
 spar:Spar w w'
theorem DAns.same{B G:Nat}{x:Sta}{rv cv mv:Value}{w w':World}(h:Dp B G x rv cv mv w)(m:More w w'):DAns B G w x w':=
 ⟨⟨rv,cv,mv,h.more m⟩,Below.mono m (Nat.le_of_lt h.blk.lt),Spar.of m⟩
theorem DAns.more{B G:Nat}{y:Sta}{w w1 w2:World}(h:DAns B G w y w1)(m:More w1 w2):DAns B G w y w2:=by
 obtain⟨⟨rv,cv,mv,hp⟩,hl,hs⟩:=h;exact⟨⟨rv,cv,mv,hp.more m⟩,hl.trans (Below.mono m (Nat.le_of_lt hp.blk.lt)),hs.trans (Spar.of m)⟩

def hasB(x:Sta)(r:Int):Bool:=decide (0<=r)&&decide (r < (x.rs.length:Int))
theorem J56{x:Sta}(h:Wf x)(r:Int):hasB x r=true↔There x r:=by
 unfold hasB There;rw[h.ml]
 simp
theorem Jcg{B G:Nat}{x:Sta}{rv cv mv:Value}(r:Int)(w:World)(h:Dp B G x rv cv mv w):
  Calls Tryz.prog 89 #[.pointer (some ⟨G,0,none⟩),V r] w fun e w'=>e=.returned (.bool (hasB x r))/\w'=w:=by
 suffices hP:∀P:Ending->World->Prop,P (.returned (.bool (hasB x r))) w->Calls Tryz.prog 89 #[.pointer (some ⟨G,0,none⟩),V r] w P from hP _ ⟨rfl,rfl⟩
 intro P hP;obtain⟨lp,rfl,_,_⟩:=h.pin;have b0:w.cell? ⟨G,0,none⟩=some (.slice lp.ra x.rs.length lp.rc):=h.blk.cell rfl;clear h;unfold hasB at hP;obtain⟨ra,Hra⟩:∃z,Hid (lp.ra=z):=⟨_,rfl⟩;obtain⟨rc,Hrc⟩:∃z,Hid (lp.rc=z):=⟨_,rfl⟩;obtain⟨rl,Hrl⟩:∃z,Hid (x.rs.length=z):=⟨_,rfl⟩;rw[Hra.out,Hrc.out,Hrl.out]at b0;rw[Hrl.out]at hP;by_cases h0:0<=r
 ·have d0:decide (0<=r)=true:=decide_eq_true h0
  by_cases h1:r < (rl:Int)
  ·have d1:decide (r < (rl:Int))=true:=decide_eq_true h1
   have HP:Hid (P (.returned (.bool true)) w):=by rw[d0,d1]at hP;exact hP
   clear hP;go_enter Tryz.func89,Tryz.ntmps89;go_wp2;exact HP.out
  ·have d1:decide (r < (rl:Int))=false:=decide_eq_false h1
   have HP:Hid (P (.returned (.bool false)) w):=by rw[d0,d1]at hP;exact hP
   clear hP h1;go_enter Tryz.func89,Tryz.ntmps89;go_wp2;exact HP.out
 ·have d0:decide (0<=r)=false:=decide_eq_false h0
  have HP:Hid (P (.returned (.bool false)) w):=by rw[d0]at hP;exact hP
  clear hP h0;go_enter Tryz.func89,Tryz.ntmps89;go_wp2;exact HP.out

theorem Ja7{B:Nat}{gs:List Nat}{ms:List (List Int)}{ma:Option Addr}{mn mc:Nat}{w:World}(k:Words B gs ms (.slice ma mn mc) w){i:Nat}(hi:i < ms.length):∃(mb g:Nat) (l:List Int),ma=some ⟨mb,0,none⟩/\mn=ms.length/\gs[i]?=some g/\ms[i]?=some l/\ms.getD i []=l/\w.cell? ⟨mb,i,none⟩=some (.slice (some ⟨g,0,none⟩) l.length l.length)/\Blk w g (J2l l) 2:=by
 have hg:i < gs.length:=by rw[k.len];exact hi
 obtain⟨mb,c,hv,_,_⟩:=k.own.form (by omega);have hv':ma=some ⟨mb,0,none⟩/\mn=ms.length:=by cases hv;exact⟨rfl,rfl⟩
 obtain⟨rfl,rfl⟩:=hv';refine⟨mb,gs[i],ms[i],rfl,rfl,List.getElem?_eq_getElem hg,List.getElem?_eq_getElem hi,?_,?_,(k.blk i _ _ (List.getElem?_eq_getElem hg) (List.getElem?_eq_getElem hi)).2⟩
 ·simp[List.getD_eq_getElem?_getD,List.getElem?_eq_getElem hi]
 ·have:=World.ownsRow.cellAt k.own i (by omega)
  rw[this];unfold rowsV;rw[List.getElem?_zipWith,List.getElem?_eq_getElem hg,List.getElem?_eq_getElem hi]
theorem Jdk{w:World}{g:Nat}{l:List Int}(h:Blk w g (J2l l) 2):SIn w (some ⟨g,0,none⟩) g 0 l:=Jbl h (fun j c hc=>by simp[J2l,hc])

theorem Jh6{B G:Nat}{x:Sta}{rv cv mv:Value}(r:Int)(w:World)(h:Dp B G x rv cv mv w)(hw:Wf x)(HL0:Lai w):
  Calls Tryz.prog 55 #[.pointer (some ⟨G,0,none⟩),V r] w fun e w'=>∃a,e=.returned (.string (txt a))/\Ja0 [r] x x a/\More w w':=by
 suffices hP:∀P:Ending->World->Prop,(∀a w',Ja0 [r] x x a->More w w'->P (.returned (.string (txt a))) w')->Calls Tryz.prog 55 #[.pointer (some ⟨G,0,none⟩),V r] w P from hP _ (fun a w' h m=>⟨a,rfl,h,m⟩)
 intro P hP0;have HP:Hid (∀a w',Ja0 [r] x x a->More w w'->P (.returned (.string (txt a))) w'):=hP0;have CH:=J02 (Jcg r w h);clear hP0;by_cases ht:There x r
 ·rw[(J56 hw r).2 ht]at CH
  obtain⟨gs,hgs⟩:=h.mem;obtain⟨ml,rfl,_⟩:=hgs.raw;obtain⟨rn,rfl⟩:=Int.eq_ofNat_of_zero_le ht.1;have hrn:rn < x.ms.length:=by have:=ht.2;omega
  obtain⟨mb,g,l,hma,_,hg,hl,hgl,hcell,hblk⟩:=Ja7 hgs hrn;have b2:w.cell? ⟨G,2,none⟩=some (.slice ml.ma x.ms.length ml.mc):=h.blk.cell rfl;rw[hma]at b2;have hlm:l ∈ x.ms:=List.mem_of_getElem? hl;have h64:=hw.len l hlm
  have CT:Hid (∀w1,w1=w->Calls Tryz.prog 92 #[.string ⟨#[105,115]⟩,.slice (some ⟨g,0,none⟩) l.length l.length] w1 fun e w'=>e=.returned (.string (txt (ansL isW l)))/\More w1 w'):=fun w1 e=>by
   subst e;exact Jad isW l _ g 0 l.length l.length w1 HL0 rfl (hw.wd l hlm) (by show 2+_<=_;omega) (Jdk hblk)
  have HE:Hid (∀w',More w w'->P (.returned (.string (txt (ansL isW l)))) w'):=fun w' m=>HP.out _ w' (.inl ⟨(rn:Int),rfl,ht,rfl,by rw[Int.toNat_natCast,hgl]⟩) m
  obtain⟨R,HR⟩:∃R,Hid (txt (ansL isW l)=R):=⟨_,rfl⟩;rw[HR.out]at CT HE;obtain⟨ln,Hln⟩:∃z,Hid (l.length=z):=⟨_,rfl⟩;obtain⟨mn,Hmn⟩:∃z,Hid (x.ms.length=z):=⟨_,rfl⟩;obtain⟨mc,Hmc⟩:∃z,Hid (ml.mc=z):=⟨_,rfl⟩;rw[Hln.out]at CT hcell;rw[Hmn.out]at b2 hrn;rw[Hmc.out]at b2;have hr0:(0:Int)<=rn:=by omega
  have hr1:(rn:Int) < mn:=by omega
  clear HP h hgs hw HL0 ht hg hl hgl hlm h64 hblk hma;go_enter Tryz.func55,Tryz.ntmps55;go_wp2_with (fail)
  refine CH.out.mono ?_;rintro e w1 ⟨rfl,rfl⟩;clear CH;go_wp2_with (fail)
  refine(CT.out _ rfl).mono ?_;rintro e w2 ⟨rfl,m2⟩;have HF:=J02 (HE.out w2 m2);clear m2 HE CT;go_wp2;exact HF.out
 ·have e:hasB x r=false:=by
   cases q:hasB x r with
   | false=>rfl
   | true=>exact absurd ((J56 hw r).1 q) ht
  rw[e]at CH;have HE:Hid (P (.returned (.string ⟨#[63]⟩)) w):=HP.out [63] w (.inr ⟨fun⟨r',e,t⟩=>by cases e;exact ht t,rfl,rfl⟩) (More.refl _);clear HP h hw HL0 ht e;go_enter Tryz.func55,Tryz.ntmps55;go_wp2_with (fail)
  refine CH.out.mono ?_;rintro e w1 ⟨rfl,rfl⟩;clear CH;go_wp2;exact HE.out
def Jbz(h:List UInt8)(n:Nat):Prop:=((h=J9r\/h=hardW\/h=loadW\/h=textW)/\n=0)\/((h=runW\/h=lookW)/\n=1)\/(h=J5v/\n=2)\/(h=insW/\n=5)\/((h=fillW\/h=J86)/\1<=n)
theorem J1l{h:List UInt8}{s:ByteArray}(e:txt h=s)(c:List UInt8)(n:¬h=c):(s.toList==c)=false/\¬s.toList=c:=by
 have q:¬s.toList=c:=fun k=>n (by rw[<-e,ByteArray.toList_mk]at k;exact k)
 exact⟨by simp only[beq_eq_false_iff_ne];exact q,q⟩

theorem Jez(h:List UInt8)(n:Nat)(w:World):
  Calls Tryz.prog 46 #[.string (txt h),V n] w fun e w'=>∃b:Bool,e=.returned (.bool b)/\(b=true↔Jbz h n)/\w'=w:=by
 suffices hP:∀P:Ending->World->Prop,(∀b:Bool,(b=true↔Jbz h n)->P (.returned (.bool b)) w)->Calls Tryz.prog 46 #[.string (txt h),V n] w P from hP _ (fun b h=>⟨b,rfl,h,rfl⟩)
 intro P hP0;have HP:Hid (∀b:Bool,(b=true↔Jbz h n)->P (.returned (.bool b)) w):=hP0;clear hP0;by_cases hw:J4d h
 ·rcases hw with rfl | rfl | rfl | rfl | rfl | rfl | rfl | rfl | rfl | rfl
  ·by_cases hn:n=2
   ·have HE:=J02 (HP.out true ⟨fun _=>.inr (.inr (.inl ⟨rfl,hn⟩)),fun _=>rfl⟩)
    subst hn;clear HP;go_enter Tryz.func46,Tryz.ntmps46;go_wp2;exact HE.out
   ·have HE:=J02 (HP.out false ⟨fun q=>by simp at q,fun q=>absurd q (fun q=>by rcases q with⟨a,b⟩ | ⟨a,b⟩ | ⟨a,b⟩ | ⟨a,b⟩ | ⟨a,b⟩<;>first | exact hn b | exact absurd a (by decide))⟩)
    have hi:((n:Int)==2)=false:=by simp;omega
    clear HP hn;go_enter Tryz.func46,Tryz.ntmps46;go_wp2;exact HE.out
  ·by_cases hn:1<=n
   ·have HE:=J02 (HP.out true ⟨fun _=>.inr (.inr (.inr (.inr ⟨.inl rfl,hn⟩))),fun _=>rfl⟩)
    have hi:(1:Int)<=n:=by omega
    clear HP;go_enter Tryz.func46,Tryz.ntmps46;go_wp2;exact HE.out
   ·have HE:=J02 (HP.out false ⟨fun q=>by simp at q,fun q=>absurd q (fun q=>by rcases q with⟨a,b⟩ | ⟨a,b⟩ | ⟨a,b⟩ | ⟨a,b⟩ | ⟨a,b⟩<;>first | exact hn b | exact absurd a (by decide))⟩)
    have hi:decide ((1:Int)<=n)=false:=by simp;omega
    clear HP hn;go_enter Tryz.func46,Tryz.ntmps46;go_wp2;exact HE.out
  ·by_cases hn:n=1
   ·have HE:=J02 (HP.out true ⟨fun _=>.inr (.inl ⟨.inr rfl,hn⟩),fun _=>rfl⟩)
    subst hn;clear HP;go_enter Tryz.func46,Tryz.ntmps46;go_wp2;exact HE.out
   ·have HE:=J02 (HP.out false ⟨fun q=>by simp at q,fun q=>absurd q (fun q=>by rcases q with⟨a,b⟩ | ⟨a,b⟩ | ⟨a,b⟩ | ⟨a,b⟩ | ⟨a,b⟩<;>first | exact hn b | exact absurd a (by decide))⟩)
    have hi:((n:Int)==1)=false:=by simp;omega
    clear HP hn;go_enter Tryz.func46,Tryz.ntmps46;go_wp2;exact HE.out
  ·by_cases hn:n=5
   ·have HE:=J02 (HP.out true ⟨fun _=>.inr (.inr (.inr (.inl ⟨rfl,hn⟩))),fun _=>rfl⟩)
    subst hn;clear HP;go_enter Tryz.func46,Tryz.ntmps46;go_wp2;exact HE.out
   ·have HE:=J02 (HP.out false ⟨fun q=>by simp at q,fun q=>absurd q (fun q=>by rcases q with⟨a,b⟩ | ⟨a,b⟩ | ⟨a,b⟩ | ⟨a,b⟩ | ⟨a,b⟩<;>first | exact hn b | exact absurd a (by decide))⟩)
    have hi:((n:Int)==5)=false:=by simp;omega
    clear HP hn;go_enter Tryz.func46,Tryz.ntmps46;go_wp2;exact HE.out
  ·by_cases hn:n=1
   ·have HE:=J02 (HP.out true ⟨fun _=>.inr (.inl ⟨.inl rfl,hn⟩),fun _=>rfl⟩)
    subst hn;clear HP;go_enter Tryz.func46,Tryz.ntmps46;go_wp2;exact HE.out
   ·have HE:=J02 (HP.out false ⟨fun q=>by simp at q,fun q=>absurd q (fun q=>by rcases q with⟨a,b⟩ | ⟨a,b⟩ | ⟨a,b⟩ | ⟨a,b⟩ | ⟨a,b⟩<;>first | exact hn b | exact absurd a (by decide))⟩)
    have hi:((n:Int)==1)=false:=by simp;omega
    clear HP hn;go_enter Tryz.func46,Tryz.ntmps46;go_wp2;exact HE.out
  ·by_cases hn:1<=n
   ·have HE:=J02 (HP.out true ⟨fun _=>.inr (.inr (.inr (.inr ⟨.inr rfl,hn⟩))),fun _=>rfl⟩)
    have hi:(1:Int)<=n:=by omega
    clear HP;go_enter Tryz.func46,Tryz.ntmps46;go_wp2;exact HE.out
   ·have HE:=J02 (HP.out false ⟨fun q=>by simp at q,fun q=>absurd q (fun q=>by rcases q with⟨a,b⟩ | ⟨a,b⟩ | ⟨a,b⟩ | ⟨a,b⟩ | ⟨a,b⟩<;>first | exact hn b | exact absurd a (by decide))⟩)
    have hi:decide ((1:Int)<=n)=false:=by simp;omega
    clear HP hn;go_enter Tryz.func46,Tryz.ntmps46;go_wp2;exact HE.out
  ·by_cases hn:n=0
   ·have HE:=J02 (HP.out true ⟨fun _=>.inl ⟨.inl rfl,hn⟩,fun _=>rfl⟩)
    subst hn;clear HP;go_enter Tryz.func46,Tryz.ntmps46;go_wp2;exact HE.out
   ·have HE:=J02 (HP.out false ⟨fun q=>by simp at q,fun q=>absurd q (fun q=>by rcases q with⟨a,b⟩ | ⟨a,b⟩ | ⟨a,b⟩ | ⟨a,b⟩ | ⟨a,b⟩<;>first | exact hn b | exact absurd a (by decide))⟩)
    have hi:((n:Int)==0)=false:=by simp;omega
    clear HP hn;go_enter Tryz.func46,Tryz.ntmps46;go_wp2;exact HE.out
  ·by_cases hn:n=0
   ·have HE:=J02 (HP.out true ⟨fun _=>.inl ⟨.inr (.inl rfl),hn⟩,fun _=>rfl⟩)
    subst hn;clear HP;go_enter Tryz.func46,Tryz.ntmps46;go_wp2;exact HE.out
   ·have HE:=J02 (HP.out false ⟨fun q=>by simp at q,fun q=>absurd q (fun q=>by rcases q with⟨a,b⟩ | ⟨a,b⟩ | ⟨a,b⟩ | ⟨a,b⟩ | ⟨a,b⟩<;>first | exact hn b | exact absurd a (by decide))⟩)
    have hi:((n:Int)==0)=false:=by simp;omega
    clear HP hn;go_enter Tryz.func46,Tryz.ntmps46;go_wp2;exact HE.out
  ·by_cases hn:n=0
   ·have HE:=J02 (HP.out true ⟨fun _=>.inl ⟨.inr (.inr (.inr rfl)),hn⟩,fun _=>rfl⟩)
    subst hn;clear HP;go_enter Tryz.func46,Tryz.ntmps46;go_wp2;exact HE.out
   ·have HE:=J02 (HP.out false ⟨fun q=>by simp at q,fun q=>absurd q (fun q=>by rcases q with⟨a,b⟩ | ⟨a,b⟩ | ⟨a,b⟩ | ⟨a,b⟩ | ⟨a,b⟩<;>first | exact hn b | exact absurd a (by decide))⟩)
    have hi:((n:Int)==0)=false:=by simp;omega
    clear HP hn;go_enter Tryz.func46,Tryz.ntmps46;go_wp2;exact HE.out
  ·by_cases hn:n=0
   ·have HE:=J02 (HP.out true ⟨fun _=>.inl ⟨.inr (.inr (.inl rfl)),hn⟩,fun _=>rfl⟩)
    subst hn;clear HP;go_enter Tryz.func46,Tryz.ntmps46;go_wp2;exact HE.out
   ·have HE:=J02 (HP.out false ⟨fun q=>by simp at q,fun q=>absurd q (fun q=>by rcases q with⟨a,b⟩ | ⟨a,b⟩ | ⟨a,b⟩ | ⟨a,b⟩ | ⟨a,b⟩<;>first | exact hn b | exact absurd a (by decide))⟩)
    have hi:((n:Int)==0)=false:=by simp;omega
    clear HP hn;go_enter Tryz.func46,Tryz.ntmps46;go_wp2;exact HE.out
 ·have HE:=J02 (HP.out false ⟨fun q=>by simp at q,fun q=>absurd q (fun q=>hw (by
   unfold J4d;rcases q with⟨a,b⟩ | ⟨a,b⟩ | ⟨a,b⟩ | ⟨a,b⟩ | ⟨a,b⟩<;>first | (rcases a with a | a | a | a<;>simp[a]) | (rcases a with a | a<;>simp[a]) | simp[a]))⟩)
  obtain⟨n1,n2,n3,n4,n5,n6,n7,n8,n9,n10⟩:=Jbb hw;obtain⟨ss,Hss⟩:∃x,Hid (txt h=x):=⟨_,rfl⟩;obtain⟨u0,t0⟩:=J1l Hss.out [114,101,103,105,111,110] n1;obtain⟨u1,t1⟩:=J1l Hss.out [102,105,108,108] n2;obtain⟨u2,t2⟩:=J1l Hss.out [108,111,111,107] n3;obtain⟨u3,t3⟩:=J1l Hss.out [105,110,115] n4;obtain⟨u4,t4⟩:=J1l Hss.out [114,117,110] n5;obtain⟨u5,t5⟩:=J1l Hss.out [97,104,101,97,100] n6;obtain⟨u6,t6⟩:=J1l Hss.out [99,104,101,99,107] n7;obtain⟨u7,t7⟩:=J1l Hss.out [104,97,114,100] n8;obtain⟨u8,t8⟩:=J1l Hss.out [116,101,120,116] n9;obtain⟨u9,t9⟩:=J1l Hss.out [108,111,97,100] n10;rw[Hss.out];clear HP hw n1 n2 n3 n4 n5 n6 n7 n8 n9 n10;go_enter Tryz.func46,Tryz.ntmps46;go_wp2;exact HE.out
theorem Jg4{l row:List Int}{k:Nat}{v:Int}(hv:l[k]?=some v)(hk:k < row.length):(over (l.take k) row).set k v=over (l.take (k+1)) row:=by
 have hl:k < l.length:=(List.getElem?_eq_some_iff.1 hv).1;have h1:(l.take k).length=k:=by simp;omega
 have h2:(l.take (k+1)).length=k+1:=by simp;omega
 unfold over;rw[h1,h2,List.take_add_one,hv];apply List.ext_getElem?;intro j;rw[List.getElem?_set];by_cases e:k=j
 ·subst e
  rw[if_pos rfl,if_pos (by simp;omega),List.getElem?_append_left (by simp;omega),List.getElem?_append_right (by omega),h1]
  simp
 ·rw[if_neg e]
  by_cases c:j < k
  ·rw[List.getElem?_append_left (by omega),List.getElem?_append_left (by simp;omega),List.getElem?_append_left (by omega)]
  ·rw[List.getElem?_append_right (by omega),List.getElem?_append_right (by simp;omega),List.getElem?_drop,List.getElem?_drop]
   congr 1
   simp
   omega
theorem Jg3(row:List Int):over [] row=row:=rfl
theorem SIn.other{w:World}{sa:Option Addr}{sb so:Nat}{l:List Int}(h:SIn w sa sb so l){T:TypeId}(ht:0 < l.length->OfType w (some sb) T){g:Nat}{c:Array Value}{U:TypeId}(hb:Blk w g c U)(ne:T≠U)(j:Nat)(v:Value):SIn (w.setCell ⟨g,j,none⟩ v) sa sb so l/\(0 < l.length->OfType (w.setCell ⟨g,j,none⟩ v) (some sb) T):=by
 have hne:0 < l.length->¬sb=g:=fun h0 e=>by
  obtain⟨c',fz,q⟩:=ht h0 sb rfl;subst e;unfold Blk at hb;rw[hb]at q
  injection (Option.some.inj q) with _ k _
  exact ne k.symm
 refine⟨⟨h.ha,fun i x hx=>?_⟩,fun h0=>(ht h0).keptT (J0l _ _ _ _) hb.ofType (fun e=>ne e.symm)⟩;have h0:0 < l.length:=Nat.lt_of_le_of_lt (Nat.zero_le _) (List.getElem?_eq_some_iff.1 hx).1;exact(J0l w g j v).cell (h.cells i x hx) (fun e=>hne h0 (Option.some.inj e))

theorem Jgm{B G:Nat}{x:Sta}{rv cv mv:Value}(r:Int)(l:List Int)(sa:Option Addr)(sb so sn sc:Nat)(w:World)(h:Dp B G x rv cv mv w)(hw:Wf x)(hL:l.length=sn)(hn:sn<=100000)(hs:SIn w sa sb so l)(ht0:0 < l.length->OfType w (some sb) 3):
  Calls Tryz.prog 48 #[.pointer (some ⟨G,0,none⟩),V r,.slice sa sn sc] w fun e w'=>∃y a,e=.returned (.string (txt a))/\J9t (r::l) x y a/\DAns B G w y w':=by
 suffices hP:∀P:Ending->World->Prop,(∀y a w',J9t (r::l) x y a->DAns B G w y w'->P (.returned (.string (txt a))) w')->Calls Tryz.prog 48 #[.pointer (some ⟨G,0,none⟩),V r,.slice sa sn sc] w P from hP _ (fun y a w' h m=>⟨y,a,rfl,h,m⟩)
 intro P hP0;have HP:Hid (∀y a w',J9t (r::l) x y a->DAns B G w y w'->P (.returned (.string (txt a))) w'):=hP0;have CH:=J02 (Jcg r w h);clear hP0;by_cases ht:There x r
 ·rw[(J56 hw r).2 ht]at CH
  obtain⟨gs,hgs⟩:=h.mem;obtain⟨ml,rfl,_⟩:=hgs.raw;obtain⟨rn,rfl⟩:=Int.eq_ofNat_of_zero_le ht.1;have hrn:rn < x.ms.length:=by have:=ht.2;omega
  obtain⟨mb,g,row,hma,_,hg,hl,hgl,hcell,hblk⟩:=Ja7 hgs hrn;have b2:w.cell? ⟨G,2,none⟩=some (.slice ml.ma x.ms.length ml.mc):=h.blk.cell rfl;rw[hma]at b2;have h64:=hw.len row (List.mem_of_getElem? hl);have hr0:(0:Int)<=rn:=by omega
  have hr1:(rn:Int) < x.ms.length:=by omega
  obtain⟨mn,Hmn⟩:∃z,Hid (x.ms.length=z):=⟨_,rfl⟩;obtain⟨mc,Hmc⟩:∃z,Hid (ml.mc=z):=⟨_,rfl⟩;obtain⟨ln,Hln⟩:∃z,Hid (row.length=z):=⟨_,rfl⟩;rw[Hmn.out]at b2 hr1;rw[Hmc.out]at b2;rw[Hln.out]at hcell h64;by_cases hlen:sn<=ln
  ·have hlen':¬(ln:Int) < (sn:Int):=by omega
   have dlen:decide ((ln:Int) < (sn:Int))=false:=decide_eq_false hlen';have HE:Hid (∀w',DAns B G w ⟨x.rs,x.cs,x.ms.set rn (over l row)⟩ w'->P (.returned (.string ⟨#[111,107]⟩)) w'):=fun w' hd=>HP.out _ okW w' (.inl ⟨(rn:Int),l,rfl,ht,by rw[Int.toNat_natCast,hgl,Hln.out,hL];exact hlen,by rw[Int.toNat_natCast,hgl],rfl⟩) hd
   have HI:Hid (∀k wr,(∃rv cv,Dp B G ⟨x.rs,x.cs,x.ms.set rn (over (l.take k) row)⟩ rv cv (.slice ml.ma x.ms.length ml.mc) wr)->Words B gs (x.ms.set rn (over (l.take k) row)) (.slice ml.ma x.ms.length ml.mc) wr->k<=sn->wr.cell? ⟨G,2,none⟩=some (.slice (some ⟨mb,0,none⟩) mn mc)/\wr.cell? ⟨mb,rn,none⟩=some (.slice (some ⟨g,0,none⟩) ln ln)/\Blk wr g (J2l (over (l.take k) row)) 2):=fun k wr hd hk hks=>by
    obtain⟨rv,cv,hd⟩:=hd;have e1:=hd.blk.cell (j:=2) rfl;have hset:(x.ms.set rn (over (l.take k) row))[rn]?=some (over (l.take k) row):=by rw[List.getElem?_set];simp[hrn]
    obtain⟨mb',g',row',a1,a2,a3,a4,a5,a6,a7⟩:=Ja7 (i:=rn) hk (by simpa using hrn);rw[hma]at a1;cases a1
    rw[hg]at a3;obtain rfl:=Option.some.inj a3;rw[hset]at a4;obtain rfl:=Option.some.inj a4
    have hol:(over (l.take k) row).length=ln:=by
     rw[J38 (by rw[Hln.out];simp;omega),Hln.out]
    rw[hol]at a6;rw[hma,Hmn.out,Hmc.out]at e1;exact⟨e1,a6,a7⟩
   have H:Hid (l.length=sn/\gs[rn]?=some g/\rn < x.ms.length/\row.length=ln/\x.ms[rn]?=some row):=⟨hL,hg,hrn,Hln.out,hl⟩
   have H0:Hid ((∃rv cv,Dp B G ⟨x.rs,x.cs,x.ms.set rn (over (l.take 0) row)⟩ rv cv (.slice ml.ma x.ms.length ml.mc) w)/\Words B gs (x.ms.set rn (over (l.take 0) row)) (.slice ml.ma x.ms.length ml.mc) w/\SIn w sa sb so l/\(0 < l.length->OfType w (some sb) 3)/\Below G w w/\Spar w w):=by
    have e:x.ms.set rn (over (l.take 0) row)=x.ms:=by
     have hg2:x.ms[rn]=row:=(List.getElem?_eq_some_iff.1 hl).2;show x.ms.set rn (over [] row)=x.ms;rw[Jg3,<-hg2,List.set_getElem_self]
    rw[e];exact⟨⟨_,_,h⟩,hgs,hs,ht0,Below.refl _ _,Spar.of (More.refl _)⟩
   clear HP h hgs hw ht hg hl hgl hma hs ht0 hblk hrn hL hcell b2;have b2:=(HI.out 0 w H0.out.1 H0.out.2.1 (Nat.zero_le _)).1;have b3:=(HI.out 0 w H0.out.1 H0.out.2.1 (Nat.zero_le _)).2.1;go_enter Tryz.func48,Tryz.ntmps48;go_wp2_with (fail)
   refine CH.out.mono ?_;rintro e w1 ⟨rfl,rfl⟩;clear CH;go_wp2_with (fail)
   go_loopg [28] sn (fun g' kv wr=>∃k:Nat,k+g'=sn/\kv=V k/\Hid ((∃rv cv,Dp B G ⟨x.rs,x.cs,x.ms.set rn (over (l.take k) row)⟩ rv cv (.slice ml.ma x.ms.length ml.mc) wr)/\Words B gs (x.ms.set rn (over (l.take k) row)) (.slice ml.ma x.ms.length ml.mc) wr/\SIn wr sa sb so l/\(0 < l.length->OfType wr (some sb) 3)/\Below G w1 wr/\Spar w1 wr))
   case atStart=>exact⟨0,by omega,rfl,H0.out⟩
   case round=>
    obtain⟨k,hkg,rfl,Hr⟩:=hrel;clear H0 b2 b3;cases gk with
    | zero=>
     obtain rfl:k=sn:=by omega
     have HF:Hid (P (.returned (.string ⟨#[111,107]⟩)) wr):=by
      obtain⟨⟨rv,cv,a1⟩,a2,a3,a4,a5,a6⟩:=Hr.out;rw[List.take_of_length_le (by rw[H.out.1];exact Nat.le_refl _)]at a1;exact HE.out wr ⟨⟨_,_,_,a1⟩,a5,a6⟩
     clear HE HI Hr;go_wp2;exact HF.out
    | succ g'=>
     have hk:k < sn:=by omega
     have hki:(k:Int) < sn:=by omega
     have hk0:(0:Int)<=k:=by omega
     have hkl:(k:Int) < ln:=by omega
     have hk63:wrap64 ((k:Int)+1)=(k:Int)+1:=by unfold wrap64;omega
     obtain⟨b2,b3,b4⟩:=HI.out k wr Hr.out.1 Hr.out.2.1 (by omega);have HB4:=J02 b4;obtain⟨v,Hv⟩:∃v,Hid (l[k]?=some v):=⟨_,List.getElem?_eq_getElem (by rw[H.out.1];exact hk)⟩;obtain rfl:=Hr.out.2.2.1.ha (by rw[H.out.1];omega);have q:=Hr.out.2.2.1.cells k v Hv.out
     have hol:(over (l.take k) row).length=ln:=by
      have h1:=H.out.2.2.2.1;rw[J38 (by rw[h1];simp;omega),h1]
     have c4:wr.cell? ⟨g,k,none⟩=some (V ((over (l.take k) row)[k]'(by omega))):=b4.cell (by simp[J2l,hol]);have f4:=b4.frozen k
     have HN:Hid ((∃rv cv,Dp B G ⟨x.rs,x.cs,x.ms.set rn (over (l.take (k+1)) row)⟩ rv cv (.slice ml.ma x.ms.length ml.mc) (wr.setCell ⟨g,k,none⟩ (V v)))/\Words B gs (x.ms.set rn (over (l.take (k+1)) row)) (.slice ml.ma x.ms.length ml.mc) (wr.setCell ⟨g,k,none⟩ (V v))/\SIn (wr.setCell ⟨g,k,none⟩ (V v)) (some ⟨sb,so,none⟩) sb so l/\(0 < l.length->OfType (wr.setCell ⟨g,k,none⟩ (V v)) (some sb) 3)/\Below G w1 (wr.setCell ⟨g,k,none⟩ (V v))/\Spar w1 (wr.setCell ⟨g,k,none⟩ (V v))):=by
      obtain⟨⟨rv,cv,a1⟩,a2,a3,a4,a5,a6⟩:=Hr.out
      have hset:(x.ms.set rn (over (l.take k) row))[rn]?=some (over (l.take k) row):=by
       have:=H.out.2.2.1;rw[List.getElem?_set];simp[this]
      have hp:=a1.put (j:=k) gs a2 H.out.2.1 hset (by omega) v;rw[List.set_set,Jg4 Hv.out (by have:=H.out.2.2.2.1;omega)]at hp;have hso:=a3.other a4 HB4.out (by decide) k (V v);have hgB:=(a2.blk rn g _ H.out.2.1 hset).1;exact⟨⟨rv,cv,hp.1⟩,hp.2,hso.1,hso.2,a5.setCell (p:=⟨g,k,none⟩) (by have:=a1.lo;show G<=g;omega) _,a6.set HB4.out own5W _ _⟩
     clear HE HI Hr b4 HB4;go_wp2;go_roundg g'
     case measure=>omega
     case rel=>exact⟨k+1,by omega,by first | rfl | simp[hk63],HN.out⟩
  ·have hlen':(ln:Int) < (sn:Int):=by omega
   have dlen:decide ((ln:Int) < (sn:Int))=true:=decide_eq_true hlen'
   have HF:Hid (P (.returned (.string ⟨#[63]⟩)) w):=HP.out x [63] w (.inr ⟨fun⟨r',l',e,t',c'⟩=>by
    cases e
    rw[Int.toNat_natCast,hgl,Hln.out,hL]at c';omega,rfl,rfl⟩) (DAns.same h (More.refl _))
   rw[hma]at h;clear HP h hgs hw ht hg hl hgl hma hs ht0 hblk hrn hL;go_enter Tryz.func48,Tryz.ntmps48;go_wp2_with (fail)
   refine CH.out.mono ?_;rintro e w1 ⟨rfl,rfl⟩;clear CH;go_wp2;exact HF.out
 ·have e:hasB x r=false:=by
   cases q:hasB x r with
   | false=>rfl
   | true=>exact absurd ((J56 hw r).1 q) ht
  rw[e]at CH;have HE:Hid (P (.returned (.string ⟨#[63]⟩)) w):=HP.out x [63] w (.inr ⟨fun⟨r',l',e,t,_⟩=>by cases e;exact ht t,rfl,rfl⟩) (DAns.same h (More.refl _));clear HP h hw ht e hs ht0;go_enter Tryz.func48,Tryz.ntmps48;go_wp2_with (fail)
  refine CH.out.mono ?_;rintro e w1 ⟨rfl,rfl⟩;clear CH;go_wp2;exact HE.out
theorem Jms:(Tryz.prog.info? 41).map (fun i=>(i.zero,i.size,i.bytes))=some (some (.agg #[V 0,V 0,V 0,V 0,V 0]),5,40):=by kernel_rfl

theorem Jc1{B G:Nat}{x:Sta}{rv cv mv:Value}(o a b c n:Int)(w:World)(h:Dp B G x rv cv mv w)(hw:Wf x)(HL0:LaiG G w):
  Calls Tryz.prog 49 #[.pointer (some ⟨G,0,none⟩),.agg #[V o,V a,V b,V c,V n]] w fun e w'=>∃y r,e=.returned (.string (txt r))/\insTo [o,a,b,c,n] x y r/\DAns B G w y w':=by
 suffices hP:∀P:Ending->World->Prop,(∀y r w',insTo [o,a,b,c,n] x y r->DAns B G w y w'->P (.returned (.string (txt r))) w')->Calls Tryz.prog 49 #[.pointer (some ⟨G,0,none⟩),.agg #[V o,V a,V b,V c,V n]] w P from hP _ (fun y a w' h m=>⟨y,a,rfl,h,m⟩)
 intro P hP0;have HP:Hid (∀y r w',insTo [o,a,b,c,n] x y r->DAns B G w y w'->P (.returned (.string (txt r))) w'):=hP0;have HL:Hid (LaiG G w):=HL0;clear hP0;obtain⟨lp,rfl,rfl,_⟩:=h.pin;have H:Hid (Dp B G x (.slice lp.ra x.rs.length lp.rc) (.slice lp.ca x.cs.length lp.cc) mv w):=h;obtain⟨ca,Hca⟩:∃z,Hid (lp.ca=z):=⟨_,rfl⟩;obtain⟨cc,Hcc⟩:∃z,Hid (lp.cc=z):=⟨_,rfl⟩;obtain⟨cl,Hcl⟩:∃z,Hid (x.cs.length=z):=⟨_,rfl⟩;obtain⟨rv,Hrv⟩:∃z,Hid (Value.slice lp.ra x.rs.length lp.rc=z):=⟨_,rfl⟩;rw[Hrv.out,Hca.out,Hcc.out,Hcl.out]at H;have hc6:=hw.cl;rw[Hcl.out]at hc6;obtain⟨W,HW⟩:∃w_:World,Hid (w_=w.alloc (.cells #[V o,V a,V b,V c,V n] 41)):=⟨_,rfl⟩;have HmW:Hid (More w W):=HW.out▸(More.refl _).alloc _ _;have HbW:Hid (Blk W w.heap.size #[V o,V a,V b,V c,V n] 41):=HW.out▸Blk.last _ _ _;have HQ:Hid (Dp B G x rv (.slice ca cl cc) mv W):=H.out.more HmW.out;obtain⟨N,HN⟩:∃z,Hid (w.heap.size=z):=⟨_,rfl⟩;have hNG:¬N=G:=by have:=H.out.blk.lt;rw[<-HN.out];omega
 rw[HN.out]at HbW;have b1:W.cell? ⟨G,1,none⟩=some (.slice ca cl cc):=HQ.out.blk.cell rfl;have b1w:w.cell? ⟨G,1,none⟩=some (.slice ca cl cc):=H.out.blk.cell rfl;have hGw:G < w.heap.size:=H.out.blk.lt;clear h hw HL0 Hrv;by_cases hlt:cl < 200
 ·have d:decide ((200:Int)<=(cl:Int))=false:=decide_eq_false (by omega)
  have hn2:¬(200:Int)<=(cl:Int):=by omega
  have HG:Hid (∀y r w',y=⟨x.rs,x.cs++[⟨o,a,b,c,n⟩],x.ms⟩->r=ansL okW [(cl:Int)+1]->DAns B G w y w'->P (.returned (.string (txt r))) w'):=fun y r w' e1 e2=>HP.out y r w' (.inl ⟨o,a,b,c,n,rfl,by rw[Hcl.out];exact hlt,e1,by rw[Hcl.out];exact e2⟩)
  clear HP;obtain⟨j0,hj1,hj2,hj3,hj4⟩:=info_parts Jms;have Hj:Hid (Tryz.prog.info? 41=some j0/\j0.zero=some (.agg #[V 0,V 0,V 0,V 0,V 0])/\j0.size=5/\j0.bytes=40):=⟨hj1,hj2,hj3,hj4⟩;clear hj1 hj2 hj3 hj4;obtain⟨S,HS⟩:∃S:World->Prop,Hid (∀w',S w'↔(w'.cell? ⟨G,1,none⟩=some (.slice ca cl cc)/\Blk w' N #[V o,V a,V b,V c,V n] 41)):=⟨_,fun _=>Iff.rfl⟩;have k0:∀i:{ w' // S w' },i.val.cell? ⟨G,1,none⟩=some (.slice ca cl cc):=fun i=>((HS.out _).1 i.property).1
  have k1:∀i:{ w' // S w' },i.val.cell? ⟨N,0,none⟩=some (V o):=fun i=>((HS.out _).1 i.property).2.cell rfl
  have k2:∀i:{ w' // S w' },i.val.cell? ⟨N,1,none⟩=some (V a):=fun i=>((HS.out _).1 i.property).2.cell rfl
  have k3:∀i:{ w' // S w' },i.val.cell? ⟨N,2,none⟩=some (V b):=fun i=>((HS.out _).1 i.property).2.cell rfl
  have k4:∀i:{ w' // S w' },i.val.cell? ⟨N,3,none⟩=some (V c):=fun i=>((HS.out _).1 i.property).2.cell rfl
  have k5:∀i:{ w' // S w' },i.val.cell? ⟨N,4,none⟩=some (V n):=fun i=>((HS.out _).1 i.property).2.cell rfl
  have hS:S W.drew:=(HS.out _).2 ⟨b1,HbW.out.drew⟩;have hne:Nonempty { w' // S w' }:=⟨⟨_,hS⟩⟩;obtain⟨W2,HW2⟩:∃w_:World,Hid (w_=(W.alloc (.cells #[V o,V a,V b,V c,V n] 41)).drew):=⟨_,rfl⟩;have Hm2:Hid (More W W2):=HW2.out▸((More.refl _).alloc _ _).drew;have HQ2:Hid (Dp B G x rv (.slice ca cl cc) mv W2):=HQ.out.more Hm2.out
  have Hown:Hid (W2.ownsRow B 41 5 (.slice ca cl cc) cl (celI x.cs)):=by
   have:=HQ2.out.ownC;rw[Hcl.out]at this;exact this
  have Hnews:Hid (∀i u,(celI [⟨o,a,b,c,n⟩])[i]?=some u->W2.cell? ((⟨W.heap.size,0,none⟩:Addr).add i)=some u):=by
   have hb:Blk W2 W.heap.size #[V o,V a,V b,V c,V n] 41:=by
    rw[HW2.out];exact(Blk.last W _ _).drew
   exact fun i u hu=>World.news_of_block hb i u hu
  have Hsz:Hid (B<=W2.heap.size):=by have:=HQ2.out.blk.lt;have:=HQ2.out.lo;show _<=_;omega
  obtain⟨NW,HNW⟩:∃z,Hid (W.heap.size=z):=⟨_,rfl⟩;have hzz:w.heap.size+1=NW:=by rw[<-HNW.out,HW.out];simp
  rw[HNW.out]at Hnews;go_enter Tryz.func49,Tryz.ntmps49;go_wp2_with (fail)
  rw[<-HW.out];rw[HN.out];refine J1m (S:=S) [9,10] [(0,true),(1,true),(2,true),(3,true),(4,true),(5,true),(6,true),(7,false),(8,false),(9,true),(10,true),(11,true),(12,false)] (by kernel_rfl) (by kernel_rfl) (by kernel_rfl) hS ?_
  iterate 7 (refine J13 rfl (by kernel_rfl) (by kernel_rfl) (fun K hK=>?_);go_simp;refine hK _ _ ?_;clear hK K)
  clear k0 k1 k2 k3 k4 k5;refine J0x rfl (by kernel_rfl) (fun K hK=>?_)
  go_simp
  refine hK _ _ ((HS.out _).2 ⟨((More.refl W).alloc _ _).drew.cell b1,HbW.out.more ((More.refl W).alloc _ _).drew⟩) ?_;clear hK K;rw[<-HW2.out];rw[HNW.out];refine J0x rfl (by kernel_rfl) (fun K hK=>?_);refine wp_append_lies _ (.tmp 17) (.tmp 19) 26 rfl B 41 j0 (.agg #[V 0,V 0,V 0,V 0,V 0]) 5 40 Tryz.underlying26 Hj.out.1 Hj.out.2.1 Hj.out.2.2.1 Hj.out.2.2.2 rfl (by decide) (.slice ca cl cc) cl (celI x.cs) rfl Hown.out ⟨NW,0,none⟩ 1 1 (celI [⟨o,a,b,c,n⟩]) rfl (by rw[J34];rfl) Hnews.out (Jak _) (by decide) (by unfold maxLen;omega) (by omega) Hsz.out _ rfl ?_;intro g3 cap3 w5 own3 gr3 hat3 hlt3;have hty:=J1u Hown.out;have B3:Blk w5 G #[rv,.slice ca cl cc,mv] 63:=HQ2.out.blk.keptT gr3 hty (by decide);have y1:=B3.cell (j:=1) rfl;have y2:=B3.frozen 1
  have B5:Blk w5 N #[V o,V a,V b,V c,V n] 41:=by
   have q:=HbW.out.more Hm2.out;refine(gr3.block N q.lt (fun e=>?_)).trans q;have:=(H.out.ownC.lt N e.symm).2;have:=HN.out;omega
  have Hr3:Hid (Dp B G ⟨x.rs,x.cs++[⟨o,a,b,c,n⟩],x.ms⟩ rv (.slice (some ⟨g3,0,none⟩) (cl+1) cap3) mv (w5.setCell ⟨G,1,none⟩ (.slice (some ⟨g3,0,none⟩) (cl+1) cap3))):=HQ2.out.addC gr3 (by rw[Hcl.out];exact own3);have Hb5:Hid (Below G w (w5.setCell ⟨G,1,none⟩ (.slice (some ⟨g3,0,none⟩) (cl+1) cap3))):=HQ2.out.below (Below.mono (HmW.out.trans Hm2.out) (Nat.le_of_lt H.out.blk.lt)) gr3 (fun k e=>(Hown.out.lt k e).1) _ _;have Hs5:Hid (Spar w (w5.setCell ⟨G,1,none⟩ (.slice (some ⟨g3,0,none⟩) (cl+1) cap3))):=((Spar.of (HmW.out.trans Hm2.out)).grown gr3 hty own5I).set B3 own5P _ _;refine hK _ _ ((HS.out _).2 ⟨y1,B5⟩) ?_;clear hK K own3 gr3 hat3 hlt3 hty B5;have hnw:Nonempty World:=⟨w⟩
  iterate 2 (refine J3d rfl (by kernel_rfl) (fun K hK=>?_);go_simp;refine hK _ _ ?_;clear hK K)
  clear hnw;refine J13 rfl (by kernel_rfl) (by kernel_rfl) (fun K hK=>?_);go_simp;refine hK _ _ ?_;clear hK K;refine J2q rfl (by kernel_rfl) (by kernel_rfl) (fun K hK=>?_)
  go_simp
  refine hK _ _ ?_;clear hK K hne hS;refine NoPanic.normal ?_;obtain⟨w6,Hw6⟩:∃w_,Hid (w_=w5.setCell ⟨G,1,none⟩ (.slice (some ⟨g3,0,none⟩) (cl+1) cap3)):=⟨_,rfl⟩;rw[<-Hw6.out]at Hr3 Hb5 Hs5 |-;clear y1 y2 B3 b1 b1w;have e0:w6.cell? ⟨G,1,none⟩=some (.slice (some ⟨g3,0,none⟩) (cl+1) cap3):=Hr3.out.blk.cell rfl;have HL6:Hid (Lai w6):=(HL.out.low Hb5.out).toLai;have CD:Hid (∀(w1:World) (b:Nat) (T:TypeId),More w6 w1->Blk w1 b #[V ((cl:Int)+1)] T->Calls Tryz.prog 88 #[.string ⟨#[111,107]⟩,.slice (some ⟨b,0,none⟩) 1 1] w1 fun e w'=>e=.returned (.string (txt (ansL okW [(cl:Int)+1])))/\More w1 w'):=fun w1 b T m h=>Jac okW _ w1 b T (HL6.out.more m) (by decide) (by unfold B64;omega) h
  have HE:Hid (∀w',More w6 w'->P (.returned (.string (txt (ansL okW [(cl:Int)+1])))) w'):=fun w' mm=>HG.out _ _ w' rfl rfl (DAns.more ⟨⟨_,_,_,Hr3.out⟩,Hb5.out,Hs5.out⟩ mm)
  obtain⟨R,HR⟩:∃R,Hid (txt (ansL okW [(cl:Int)+1])=R):=⟨_,rfl⟩;rw[HR.out]at CD HE;clear HG HR;go_wp2_with (fail)
  have hb:=Blk.last w6 #[V ((cl:Int)+1)] 3;refine(CD.out _ _ _ ((More.refl _).alloc _ _) hb).mono ?_;rintro e w11 ⟨rfl,m11⟩;have Hend:Hid (P (.returned (.string R)) w11):=HE.out w11 (((More.refl _).alloc _ _).trans m11);clear m11 HE;go_wp2;exact Hend.out
 ·have d:decide ((200:Int)<=(cl:Int))=true:=decide_eq_true (by omega)
  have hn2:(200:Int)<=(cl:Int):=by omega
  have HE:Hid (P (.returned (.string ⟨#[63]⟩)) W):=HP.out x [63] W (.inr ⟨fun e=>hlt (by have:=e.2;rw[Hcl.out]at this;exact this),rfl,rfl⟩) (DAns.same H.out HmW.out);clear HP hlt;go_enter Tryz.func49,Tryz.ntmps49;go_wp2;rw[<-HW.out];exact HE.out
theorem J85{B G:Nat}{x:Sta}{rv cv mv:Value}(u v:Int)(w:World)(h:Dp B G x rv cv mv w)(hw:Wf x)(HL0:LaiG G w):
  Calls Tryz.prog 47 #[.pointer (some ⟨G,0,none⟩),V u,V v] w fun e w'=>∃y r,e=.returned (.string (txt r))/\J59 [u,v] x y r/\DAns B G w y w':=by
 suffices hP:∀P:Ending->World->Prop,(∀y r w',J59 [u,v] x y r->DAns B G w y w'->P (.returned (.string (txt r))) w')->Calls Tryz.prog 47 #[.pointer (some ⟨G,0,none⟩),V u,V v] w P from hP _ (fun y a w' h m=>⟨y,a,rfl,h,m⟩)
 intro P hP0;have HP:Hid (∀y r w',J59 [u,v] x y r->DAns B G w y w'->P (.returned (.string (txt r))) w'):=hP0;have HL:Hid (LaiG G w):=HL0;clear hP0;obtain⟨lp,rfl,_,_⟩:=h.pin;obtain⟨gs,hgs⟩:=h.mem;obtain⟨ml,rfl,_⟩:=hgs.raw;clear hgs;have H:Hid (Dp B G x (.slice lp.ra x.rs.length lp.rc) cv (.slice ml.ma x.ms.length ml.mc) w):=h;obtain⟨ra,Hra⟩:∃z,Hid (lp.ra=z):=⟨_,rfl⟩;obtain⟨rc,Hrc⟩:∃z,Hid (lp.rc=z):=⟨_,rfl⟩;obtain⟨rl,Hrl⟩:∃z,Hid (x.rs.length=z):=⟨_,rfl⟩;obtain⟨ma,Hma⟩:∃z,Hid (ml.ma=z):=⟨_,rfl⟩;obtain⟨mc,Hmc⟩:∃z,Hid (ml.mc=z):=⟨_,rfl⟩;have hml:=hw.ml;have hr6:=hw.rl;rw[Hra.out,Hrc.out,Hma.out,Hmc.out,hml,Hrl.out]at H;rw[Hrl.out]at hr6 hml;have b0:w.cell? ⟨G,0,none⟩=some (.slice ra rl rc):=H.out.blk.cell rfl;have hGw:G < w.heap.size:=H.out.blk.lt;clear h hw HL0;by_cases hbad:J9n x.rs u v
 ·obtain⟨u0,u6,v0,v1,r6⟩:=hbad
  have HG:Hid (∀y r w',y=⟨x.rs++[(u,decide (v=1))],x.cs,x.ms++[List.replicate (2 ^ u.toNat) 0]⟩->r=ansL okW [(rl:Int)+1]->DAns B G w y w'->P (.returned (.string (txt r))) w'):=fun y r w' e1 e2=>by
   subst e1;exact HP.out _ r w' (.inl ⟨u,v,rfl,.inr ⟨⟨u0,u6,v0,v1,r6⟩,rfl,rfl,by rw[Hrl.out];exact e2⟩,rfl⟩)
  rw[Hrl.out]at r6;have d1:decide (u < 0)=false:=by simp;omega
  have d2:decide (6 < u)=false:=by simp;omega
  have d3:decide (v < 0)=false:=by simp;omega
  have d4:decide (1 < v)=false:=by simp;omega
  have d5:decide ((6:Int)<=(rl:Int))=false:=by simp;omega
  clear HP;obtain⟨un,rfl⟩:=Int.eq_ofNat_of_zero_le u0;have hx6:un<=6:=by omega
  obtain⟨vb,Hvb⟩:∃vb:Bool,Hid (decide (v=1)=vb/\(v==1)=vb):=⟨decide (v=1),rfl,rfl⟩;have hvb:(v==1)=vb:=Hvb.out.2;obtain⟨j0,hj1,hj2,hj3,hj4⟩:=info_parts Jmu;have Hj:Hid (Tryz.prog.info? 76=some j0/\j0.zero=some (.agg #[V 0,.bool false])/\j0.size=2/\j0.bytes=16):=⟨hj1,hj2,hj3,hj4⟩;clear hj1 hj2 hj3 hj4;obtain⟨W,HW⟩:∃w_:World,Hid (w_=w.alloc (.cells #[V un,.bool vb] 76)):=⟨_,rfl⟩;have HmW:Hid (More w W):=HW.out▸(More.refl _).alloc _ _;have HQ:Hid (Ply 63 B G x.rs x.cs x.ms (.slice ra rl rc) cv (.slice ma rl mc) W):=H.out.more HmW.out
  have Hown:Hid (W.ownsRow B 76 2 (.slice ra rl rc) rl (celR x.rs)):=by
   have:=HQ.out.ownR;rw[Hrl.out]at this;exact this
  have Hnews:Hid (∀i t,(celR [((un:Int),vb)])[i]?=some t->W.cell? ((⟨w.heap.size,0,none⟩:Addr).add i)=some t):=by
   have hb:Blk W w.heap.size #[V un,.bool vb] 76:=by
    rw[HW.out];exact Blk.last _ _ _
   exact fun i t ht=>World.news_of_block hb i t ht
  have Hsz:Hid (B<=W.heap.size):=by have:=HQ.out.blk.lt;have:=HQ.out.lo;show _<=_;omega
  have Hnx:Hid (∀g3 cap3 w5,w5.ownsRow B 76 2 (.slice (some ⟨g3,0,none⟩) (rl+1) cap3) (rl+1) (celR x.rs++celR [((un:Int),vb)])->W.grownBy w5 (Value.slice ra rl rc).ownBlock->w5.cell? ⟨G,0,none⟩=some (.slice ra rl rc)/\w5.frozen? ⟨G,0,none⟩=false/\G < w5.heap.size/\Hid (Ply 63 B G (x.rs++[((un:Int),vb)]) x.cs x.ms (.slice (some ⟨g3,0,none⟩) (rl+1) cap3) cv (.slice ma rl mc) (w5.setCell ⟨G,0,none⟩ (.slice (some ⟨g3,0,none⟩) (rl+1) cap3))/\Below G w (w5.setCell ⟨G,0,none⟩ (.slice (some ⟨g3,0,none⟩) (rl+1) cap3))/\Spar w (w5.setCell ⟨G,0,none⟩ (.slice (some ⟨g3,0,none⟩) (rl+1) cap3)))):=fun g3 cap3 w5 own3 gr3=>by
   have hty:=J1u Hown.out;have B3:Blk w5 G #[.slice ra rl rc,cv,.slice ma rl mc] 63:=HQ.out.blk.keptT gr3 hty (by decide);exact⟨B3.cell (j:=0) rfl,B3.frozen 0,B3.lt,HQ.out.addR gr3 (by rw[Hrl.out];exact own3),HQ.out.below (Below.mono HmW.out (Nat.le_of_lt H.out.blk.lt)) gr3 (fun k e=>(Hown.out.lt k e).1) _ _,((Spar.of HmW.out).grown gr3 hty own5R).set B3 own5P _ _⟩
  go_enter Tryz.func47,Tryz.ntmps47;go_wp2_with (at_builtin;rw[<-HW.out];refine wpList_append_lies _ rfl (.tmp 35) (.tmp 40) 25 rfl B 76 j0 (.agg #[V 0,.bool false]) 2 16 Tryz.underlying25 Hj.out.1 Hj.out.2.1 Hj.out.2.2.1 Hj.out.2.2.2 rfl (by decide) (.slice ra rl rc) rl (celR x.rs) rfl Hown.out ⟨w.heap.size,0,none⟩ 1 1 (celR [((un:Int),vb)]) rfl (by rw[J35];rfl) Hnews.out (Jal _) (by decide) (by unfold maxLen;omega) (by omega) Hsz.out W.heap.size rfl ?_;intro g3 cap3 w5 own3 gr3 hat3 hlt3;obtain⟨y1,y2,y3,Hy⟩:=Hnx.out g3 cap3 w5 own3 gr3;clear own3 gr3 hat3 hlt3)
  obtain⟨w6,Hw6⟩:∃w_,Hid (w_=w5.setCell ⟨G,0,none⟩ (.slice (some ⟨g3,0,none⟩) (rl+1) cap3)):=⟨_,rfl⟩;rw[<-Hw6.out]at Hy |-;clear y1 y2 y3 b0 Hnx Hnews Hown
  obtain⟨nw,Hnw⟩:∃nw:Nat,Hid (nw=2 ^ un/\1<=nw/\nw<=64):=by
   refine⟨2 ^ un,rfl,?_⟩;have:un=0\/un=1\/un=2\/un=3\/un=4\/un=5\/un=6:=by omega
   rcases this with rfl | rfl | rfl | rfl | rfl | rfl | rfl<;>decide
  have hsh:IntKind.i64.wrap ((2:Int) ^ un)=(nw:Int):=by
   rw[Hnw.out.1];have:un=0\/un=1\/un=2\/un=3\/un=4\/un=5\/un=6:=by omega
   rcases this with rfl | rfl | rfl | rfl | rfl | rfl | rfl<;>decide
  obtain⟨gs2,hgs2⟩:=Hy.out.1.mem;have Hgs2:Hid (Words B gs2 x.ms (.slice ma rl mc) w6):=hgs2;clear hgs2;obtain⟨i0,hi1,hi2,hi3,hi4⟩:=info_parts Jmt;have Hi:Hid (Tryz.prog.info? 35=some i0/\i0.zero=some (.slice none 0 0)/\i0.size=1/\i0.bytes=24):=⟨hi1,hi2,hi3,hi4⟩;clear hi1 hi2 hi3 hi4;have hmk:=run_make_row' (P:=Tryz.prog) 35 2 (V 0) 8 Tryz.underlying35 info2 rfl .i64 .i64 nw (by have:=Hnw.out;omega) (by have:=Hnw.out;omega);have c2:w6.cell? ⟨G,2,none⟩=some (.slice ma rl mc):=Hy.out.1.blk.cell rfl;obtain⟨S,HS⟩:∃S:World->Prop,Hid (∀w',S w'↔w'.cell? ⟨G,2,none⟩=some (.slice ma rl mc)):=⟨_,fun _=>Iff.rfl⟩;have k0:∀i:{ w' // S w' },i.val.cell? ⟨G,2,none⟩=some (.slice ma rl mc):=fun i=>(HS.out _).1 i.property
  have hS:S w6.drew:=(HS.out _).2 c2;have hne:Nonempty { w' // S w' }:=⟨⟨_,hS⟩⟩;obtain⟨W8,HW8⟩:∃w_:World,Hid (w_=((w6.alloc (.cells (madeCells #[V 0] nw) 2)).alloc (.cells #[.slice (some ⟨w6.heap.size,0,none⟩) nw nw] 35)).drew):=⟨_,rfl⟩;have Hm8:Hid (More w6 W8):=HW8.out▸(((More.refl _).alloc _ _).alloc _ _).drew
  have Hb8:Hid (Blk W8 w6.heap.size (J2l (List.replicate nw 0)) 2):=by
   have q:Blk W8 w6.heap.size (madeCells #[V 0] nw) 2:=HW8.out▸((Blk.last w6 _ _).alloc _ _).drew;rw[Ja1]at q;exact q
  have Hnews8:Hid (∀i t,[Value.slice (some ⟨w6.heap.size,0,none⟩) nw nw][i]?=some t->W8.cell? ((⟨w6.heap.size+1,0,none⟩:Addr).add i)=some t):=by
   have hb:Blk W8 (w6.heap.size+1) #[.slice (some ⟨w6.heap.size,0,none⟩) nw nw] 35:=by
    rw[HW8.out];have:=Blk.last (w6.alloc (.cells (madeCells #[V 0] nw) 2)) #[.slice (some ⟨w6.heap.size,0,none⟩) nw nw] 35;rw[show(w6.alloc (.cells (madeCells #[V 0] nw) 2)).heap.size=w6.heap.size+1 by simp]at this;exact this.drew
   exact fun i t ht=>World.news_of_block hb i t ht
  have Hown8:Hid (W8.ownsRow B 35 1 (.slice ma rl mc) rl (rowsV gs2 x.ms)):=by
   have:=(Hgs2.out.more Hm8.out).own;rw[hml]at this;exact this
  have Hsz8:Hid (B<=W8.heap.size):=by have:=(Hy.out.1.more Hm8.out).blk.lt;have:=Hy.out.1.lo;show _<=_;omega
  have hz6:=Hy.out.1.blk.lt;refine J1m (S:=S) [10] [(0,true),(1,true),(2,true),(3,true),(4,true),(5,true),(6,true),(7,false),(8,false),(9,false),(10,true),(11,true),(12,false)] (by kernel_rfl) (by kernel_rfl) (by kernel_rfl) hS ?_
  iterate 7 (refine J13 rfl (by kernel_rfl) (by kernel_rfl) (fun K hK=>?_);go_simp;refine hK _ _ ?_;clear hK K)
  clear k0 hsh;refine J0x rfl (by kernel_rfl) (fun K hK=>?_)
  go_simp
  refine hK _ _ ((HS.out _).2 (((More.refl w6).alloc _ _).drew.cell c2)) ?_;clear hK K hmk;refine J0x rfl (by kernel_rfl) (fun K hK=>?_)
  go_simp
  rw[<-HW8.out];refine hK _ _ ((HS.out _).2 (Hm8.out.cell c2)) ?_;clear hK K;refine J0x rfl (by kernel_rfl) (fun K hK=>?_);refine wp_append_lies _ (.tmp 49) (.tmp 53) 29 rfl B 35 i0 (.slice none 0 0) 1 24 Tryz.underlying29 Hi.out.1 Hi.out.2.1 Hi.out.2.2.1 Hi.out.2.2.2 rfl (by decide) (.slice ma rl mc) rl (rowsV gs2 x.ms) rfl Hown8.out ⟨w6.heap.size+1,0,none⟩ 1 1 [.slice (some ⟨w6.heap.size,0,none⟩) nw nw] rfl rfl Hnews8.out (fun u hu=>by simp at hu;subst hu;rfl) (by decide) (by unfold maxLen;omega) (by omega) Hsz8.out _ rfl ?_;intro g4 cap4 w9 own4 gr4 hat4 hlt4;have hty4:=J1u Hown8.out;have B4:Blk w9 G #[.slice (some ⟨g3,0,none⟩) (rl+1) cap3,cv,.slice ma rl mc] 63:=(Hy.out.1.more Hm8.out).blk.keptT gr4 hty4 (by decide);have y1:=B4.cell (j:=2) rfl;have y2:=B4.frozen 2;have Hr4:Hid (Ply 63 B G (x.rs++[((un:Int),vb)]) x.cs (x.ms++[List.replicate nw 0]) (.slice (some ⟨g3,0,none⟩) (rl+1) cap3) cv (.slice (some ⟨g4,0,none⟩) (rl+1) cap4) (w9.setCell ⟨G,2,none⟩ (.slice (some ⟨g4,0,none⟩) (rl+1) cap4))):=Hy.out.1.addM Hgs2.out Hb8.out (Nat.le_refl _) Hm8.out gr4 (by rw[hml,List.length_replicate];exact own4);have Hb9:Hid (Below G w (w9.setCell ⟨G,2,none⟩ (.slice (some ⟨g4,0,none⟩) (rl+1) cap4))):=(Hy.out.1.more Hm8.out).below (Hy.out.2.1.trans (Below.mono Hm8.out (Nat.le_of_lt hz6))) gr4 (fun k e=>(Hown8.out.lt k e).1) _ _
  have Hs9:Hid (Spar w (w9.setCell ⟨G,2,none⟩ (.slice (some ⟨g4,0,none⟩) (rl+1) cap4))):=((Hy.out.2.2.trans (Spar.of Hm8.out)).grown gr4 hty4 own5S).set B4 own5P _ _;refine hK _ _ ((HS.out _).2 y1) ?_;clear hK K own4 gr4 hat4 hlt4 hty4;have hnw:Nonempty World:=⟨w⟩;refine J3d rfl (by kernel_rfl) (fun K hK=>?_);go_simp;refine hK _ _ ?_;clear hK K;clear hnw;refine J13 rfl (by kernel_rfl) (by kernel_rfl) (fun K hK=>?_);go_simp;refine hK _ _ ?_;clear hK K;refine J2q rfl (by kernel_rfl) (by kernel_rfl) (fun K hK=>?_)
  go_simp
  refine hK _ _ ?_;clear hK K hne hS;refine NoPanic.normal ?_;obtain⟨w10,Hw10⟩:∃w_,Hid (w_=w9.setCell ⟨G,2,none⟩ (.slice (some ⟨g4,0,none⟩) (rl+1) cap4)):=⟨_,rfl⟩;rw[<-Hw10.out]at Hr4 Hb9 Hs9 |-;clear y1 y2 B4 c2 hz6;have e0:w10.cell? ⟨G,0,none⟩=some (.slice (some ⟨g3,0,none⟩) (rl+1) cap3):=Hr4.out.blk.cell rfl;have HL10:Hid (Lai w10):=(HL.out.low Hb9.out).toLai;have CD:Hid (∀(w1:World) (b:Nat) (T:TypeId),More w10 w1->Blk w1 b #[V ((rl:Int)+1)] T->Calls Tryz.prog 88 #[.string ⟨#[111,107]⟩,.slice (some ⟨b,0,none⟩) 1 1] w1 fun e w'=>e=.returned (.string (txt (ansL okW [(rl:Int)+1])))/\More w1 w'):=fun w1 b T m h=>Jac okW _ w1 b T (HL10.out.more m) (by decide) (by unfold B64;omega) h
  have HE:Hid (∀w',More w10 w'->P (.returned (.string (txt (ansL okW [(rl:Int)+1])))) w'):=fun w' mm=>HG.out _ _ w' rfl rfl (DAns.more ⟨⟨_,_,_,by have h1:=Hr4.out;rw[<-Hvb.out.1,Hnw.out.1]at h1;exact h1⟩,Hb9.out,Hs9.out⟩ mm)
  obtain⟨R,HR⟩:∃R,Hid (txt (ansL okW [(rl:Int)+1])=R):=⟨_,rfl⟩;rw[HR.out]at CD HE;clear HG HR;go_wp2_with (fail)
  have hb:=Blk.last w10 #[V ((rl:Int)+1)] 3;refine(CD.out _ _ _ ((More.refl _).alloc _ _) hb).mono ?_;rintro e w11 ⟨rfl,m11⟩;have Hend:Hid (P (.returned (.string R)) w11):=HE.out w11 (((More.refl _).alloc _ _).trans m11);clear m11 HE;go_wp2;exact Hend.out
 ·have HE:Hid (P (.returned (.string ⟨#[63]⟩)) w):=HP.out x [63] w (.inl ⟨u,v,rfl,.inl ⟨hbad,rfl,rfl,rfl⟩,rfl⟩) (DAns.same H.out (More.refl _))
  have hc:decide (u < 0)=true\/(decide (u < 0)=false/\decide (6 < u)=true)\/(decide (u < 0)=false/\decide (6 < u)=false/\decide (v < 0)=true)\/(decide (u < 0)=false/\decide (6 < u)=false/\decide (v < 0)=false/\decide (1 < v)=true)\/(decide (u < 0)=false/\decide (6 < u)=false/\decide (v < 0)=false/\decide (1 < v)=false/\decide ((6:Int)<=(rl:Int))=true):=by
   unfold J9n at hbad;rw[Hrl.out]at hbad
   simp
   omega
  clear HP hbad;rcases hc with d1 | ⟨d1,d2⟩ | ⟨d1,d2,d3⟩ | ⟨d1,d2,d3,d4⟩ | ⟨d1,d2,d3,d4,d5⟩
  all_goals
   go_enter Tryz.func47,Tryz.ntmps47;go_wp2;exact HE.out
theorem Jnl:(Tryz.prog.info? 76).map (fun i=>(i.zero,i.size,i.bytes))=some (some (.agg #[V 0,.bool false]),2,16):=by kernel_rfl

def regK(log:Nat->Int)(sec:Nat->Bool):KS:=fun i=>⟨log i,sec i⟩

theorem Ji6(a:Option Addr)(n c b o:Nat)(log:Nat->Int)(sec:Nat->Bool)(w:World)(ha:0 < n->a=some ⟨b,o,none⟩)(hr:RegsAt w b o n log sec)(hn:n<=6):
  Calls Tryz.prog 36 #[.slice a n c] w fun e w'=>∃(a':Option Addr) (g c':Nat),e=.returned (.slice a' n c')/\(0 < n->a'=some ⟨g,0,none⟩)/\w.heap.size<=g/\RegsAt w' g 0 n log sec/\RowT 76 2 w.heap.size w' (.slice a' n c') n/\More w w':=by
 have qn:∀(w:World) (a:Option Addr) (n c n' c':Nat),(binOp .eql 25 (.slice a n c) (.slice none n' c')).run Tryz.prog w=.ok (.bool a.isNone) w:=fun w a n c n' c'=>Lib.run_eql_slice_nil w _ _ a n c n' c' Tryz.underlying25
 cases a with
 | none=>
  obtain rfl:n=0:=by
   rcases Nat.eq_zero_or_pos n with q | q
   ·exact q
   ·exact absurd (ha q) (by simp)
  clear ha hr hn;go_enter Tryz.func36,Tryz.ntmps36;go_wp2;go_ret;exact⟨none,w.heap.size,0,rfl,fun h=>absurd h (Nat.lt_irrefl _),Nat.le_refl _,fun i hi=>absurd hi (Nat.not_lt_zero _),.inl ⟨rfl,rfl⟩,More.refl _⟩
 | some ad=>
  obtain⟨i0,hi,hz0,hz1,hz2⟩:=info_parts Jnl;have Hi:Hid (Tryz.prog.info? 76=some i0/\i0.zero=some (.agg #[V 0,.bool false])/\i0.size=2/\i0.bytes=16):=⟨hi,hz0,hz1,hz2⟩;have Hn:Hid (n<=6):=hn;have Hown1:Hid ((w.alloc (.cells #[] 76)).ownsRow w.heap.size 76 2 (.slice (some ⟨w.heap.size,0,none⟩) 0 0) 0 []):=World.ownsRow_made _ #[] 0 (Nat.le_refl _) (by unfold maxLen;omega) rfl
  have Hnews:Hid (0 < n->∃ad',some ad=some ad'/\∀j u,(flatK (regK log sec) n)[j]?=some u->(w.alloc (.cells #[] 76)).cell? (ad'.add j)=some u):=fun h0=>by
   refine⟨_,ha h0,fun j u hu=>?_⟩;have hj:j < n*2:=by have:=(List.getElem?_eq_some_iff.1 hu).1;rw[J18]at this;exact this
   rw[Go.WideShapes.add_plain];have hk:=hr (j / 2) (by omega);have hf:=J7x (regK log sec) n (j / 2) (by omega);by_cases e:j % 2=0
   ·have e2:j / 2*2=j:=by omega
    rw[e2]at hk hf;rw[hf.1]at hu;rw[<-Option.some.inj hu];exact((More.refl _).alloc _ _).cell hk.1
   ·have e2:j / 2*2+1=j:=by omega
    have e3:o+j / 2*2+1=o+j:=by omega
    rw[e3]at hk;rw[e2]at hf;rw[hf.2]at hu;rw[<-Option.some.inj hu];exact((More.refl _).alloc _ _).cell hk.2
  clear hi hz0 hz1 hz2 hn ha hr;go_enter Tryz.func36,Tryz.ntmps36;go_wp2_with (at_builtin;refine J7a _ rfl (.tmp 5) (.tmp 6) 25 rfl w.heap.size 76 i0 (.agg #[V 0,.bool false]) 2 16 Tryz.underlying25 Hi.out.1 Hi.out.2.1 Hi.out.2.2.1 Hi.out.2.2.2 rfl (by decide) (.slice (some ⟨w.heap.size,0,none⟩) 0 0) 0 [] rfl Hown1.out (some ad) n c (flatK (regK log sec) n) rfl (by rw[J18]) Hnews.out (J8f _ n) (by have:=Hn.out;unfold maxLen;omega) (by have:=Hn.out;omega) (by simp) ?_;intro va cap w2 own2 gr2 hat2 hnn2)
  go_ret;simp only[Nat.zero_add,List.nil_append]at own2 |-
  have hm:More w w2:=((More.refl _).alloc _ _).grownBy gr2 (fun k hk=>by
   have:w.heap.size=k:=by simpa[Value.ownBlock]using hk
   omega)
  by_cases h0:0 < n
  ·obtain⟨g,cap',hv,hlo,_⟩:=own2.form h0
   cases hv
   refine⟨_,g,cap,rfl,fun _=>rfl,hlo,fun i hi=>?_,RowT.of_own own2,hm⟩;have hf:=J7x (regK log sec) n i hi;simp only[Nat.zero_add];exact⟨by rw[World.ownsRow.cellAt own2 (i*2) (by omega)];exact hf.1,by rw[World.ownsRow.cellAt own2 (i*2+1) (by omega)];exact hf.2⟩
  ·exact⟨va,w.heap.size,cap,rfl,fun h=>absurd h h0,Nat.le_refl _,fun i hi=>absurd hi (by omega),RowT.of_own own2,hm⟩
end
end Go.Proofs.YtephohhigbfafaaGreatDoor
