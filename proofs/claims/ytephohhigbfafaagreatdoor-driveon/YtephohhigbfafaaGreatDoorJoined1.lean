/-
  The texts DrTell, Fork, Built, KnPlain, CkPlain, CkRound, CvPlain, KnLen, KnDev, CkMem, CvMem, CvSum, Last, CvJoined, one behind the other, with what is used of them.
-/
import Derived.Test.YtephohhigbfafaaGreatDoorJoined0
import Derived.WalkKit
import Derived.Laws.IdiomCopy
import Derived.Laws.MathBits
import Derived.Test.YtephohhigbfafaaGreatDoorProg
import Derived.Lib.Strings
import Derived.Lib.Slices
import Derived.Lib.Small
import Derived.Lib.Walk
import Derived.Lib.BitFns
import Derived.Deep.AppendLies
import Derived.OwnWalk
import Derived.Laws.OwnMore
import Derived.Deep.LoopGhost
namespace Go.Proofs.YtephohhigbfafaaGreatDoor
set_option maxHeartbeats 4000000
section
open Go.RowKit
set_option linter.unusedSimpArgs false
set_option linter.unusedVariables false
set_option maxRecDepth 8000
theorem J5s(L:List Int)(n k:Nat)(h:L.length=n)(hk:k<=n):(numsL (L.take k)).length<=22*n:=by
 have h1:=J2t (L.take k);have h2:(L.take k).length<=k:=by simp;omega
 omega

theorem Jgb(s:List UInt8)(L:List Int)(sa:Option Addr)(sb so sn sc:Nat)(w:World)(HL0:Lai w)(hL:L.length=sn)(hb:∀x ∈ L,B64 x)(hz:s.length+22*sn<=1000000)(hs:SIn w sa sb so L):
  Calls Tryz.prog 88 #[.string (txt s),.slice sa sn sc] w fun e w'=>e=.returned (.string (txt (ansL s L)))/\More w w':=by
 suffices hP:∀P:Ending->World->Prop,(∀w',More w w'->P (.returned (.string (txt (ansL s L)))) w')->Calls Tryz.prog 88 #[.string (txt s),.slice sa sn sc] w P from hP _ (fun w' m=>⟨rfl,m⟩)
 intro P hP0;have HP:Hid (∀w',More w w'->P (.returned (.string (txt (ansL s L)))) w'):=hP0;have HL:Hid (Lai w):=HL0;obtain⟨B,HB⟩:∃x,Hid (w.heap.size=x):=⟨_,rfl⟩
 have HM:Hid (∀wr,Below B w wr->More w wr/\B<=wr.heap.size):=fun wr m=>by
  have m':More w wr:=by show Below w.heap.size w wr;rw[HB.out];exact m
  exact⟨m',by rw[<-HB.out];exact m'.size⟩
 have CF:Hid (∀x,x ∈ L->∀w1,Lai w1->Calls Tryz.prog 113 #[V x,V 10] w1 fun e w'=>∃d:ByteArray,e=.returned (.string d)/\txt [32]++d=txt (32::digI x)/\d.size<=21/\More w1 w'):=fun x hx w1 h=>by
  refine(J3e x (hb x hx) w1 h).mono ?_;rintro e w' ⟨rfl,m⟩;exact⟨_,rfl,J1k [32] _,by rw[J0e];exact J0m _,m⟩
 have CW0:Hid (∀w',Bld w' B B []->B<=w'.heap.size->Calls Tryz.prog 20 #[.pointer (some ⟨B,0,none⟩),.string (txt s)] w' fun e w''=>∃n:Int,e=.returned (.tuple #[V n,.nilIface])/\Bld w'' B B s/\Below B w' w''):=fun w' hb hB=>(J1d B B [] s w' hb (by simp;omega) hB).mono (fun e w'' h=>⟨_,h.1,h.2.1,h.2.2.1⟩)
 have CW:Hid (∀(l m:List UInt8) (d:ByteArray) w',txt [32]++d=txt m->Bld w' B B l->l.length+m.length<=140737488355328->B<=w'.heap.size->Calls Tryz.prog 20 #[.pointer (some ⟨B,0,none⟩),.string (⟨#[32]⟩++d)] w' fun e w''=>∃n:Int,e=.returned (.tuple #[V n,.nilIface])/\Bld w'' B B (l++m)/\Below B w' w''):=fun l m d w' hd hb hl hB=>by
  have hd':⟨#[32]⟩++d=txt m:=hd;rw[hd'];exact(J1d B B l m w' hb hl hB).mono (fun e w'' h=>⟨_,h.1,h.2.1,h.2.2.1⟩)
 have H:Hid (L.length=sn/\SIn w sa sb so L/\s.length+22*sn<=1000000):=⟨hL,hs,hz⟩;obtain⟨W,HW⟩:∃w_:World,Hid (w_=w.alloc (.cells #[.pointer none,.slice none 0 0] 67)):=⟨_,rfl⟩;have HB2:Hid (Bld W B B []):=by rw[<-HB.out];exact HW.out▸J3r w
 have HW0:Hid (Below B w W):=HB.out▸HW.out▸(More.refl _).alloc _ _;have C0:=J02 (CW0.out W HB2.out (HM.out W HW0.out).2);obtain⟨ss,Hss⟩:∃x,Hid (txt s=x):=⟨_,rfl⟩;rw[Hss.out]at C0 |-;clear hP0 hL hb hz hs HL0 CW0 HB2;go_enter Tryz.func88,Tryz.ntmps88;go_wp2_with (fail)
 rw[<-HW.out];rw[HB.out];refine C0.out.mono ?_;rintro e w1 ⟨n1,rfl,h1,b1⟩;have H1:Hid (Bld w1 B B s/\Below B w w1):=⟨h1,HW0.out.trans b1⟩;clear C0 h1 b1 HW0;go_wp2_with (fail)
 go_loopg [12] sn (fun g kv wr=>∃k:Nat,k+g=sn/\kv=V k/\Hid (Bld wr B B (s++numsL (L.take k))/\Below B w wr))
 case atStart=>exact⟨0,by omega,rfl,by simpa[numsL]using H1.out.1,H1.out.2⟩
 case round=>
  obtain⟨k,hkg,rfl,Hr⟩:=hrel;clear H1;cases gk with
  | zero=>
   obtain rfl:k=sn:=by omega
   have CS:=J02 (J29 B B _ wr Hr.out.1 (HM.out wr Hr.out.2).2);rw[List.take_of_length_le (by rw[H.out.1];exact Nat.le_refl _)]at CS;have HQ:=J02 (fun w' m=>HP.out w' m);unfold ansL at HQ;obtain⟨os,Hos⟩:∃x,Hid (txt (s++numsL L)=x):=⟨_,rfl⟩;rw[Hos.out]at CS HQ;clear CF CW HP;go_wp2_with (fail)
   refine CS.out.mono ?_;rintro e w3 ⟨rfl,_,b3,_⟩;have HE:=J02 (HQ.out w3 (HM.out w3 (Hr.out.2.trans b3)).1);clear b3 HQ;go_wp2;exact HE.out
  | succ g=>
   have hk:k < sn:=by omega
   have hki:(k:Int) < sn:=by omega
   have hk0:(0:Int)<=k:=by omega
   have hk63:wrap64 ((k:Int)+1)=(k:Int)+1:=by have:=H.out.2.2;unfold wrap64;omega
   obtain⟨x,Hx⟩:∃x,Hid (L[k]?=some x):=⟨_,List.getElem?_eq_getElem (by rw[H.out.1];exact hk)⟩;obtain rfl:=H.out.2.1.1 (by rw[H.out.1];omega);have q:=(HM.out wr Hr.out.2).1.cell (H.out.2.1.2 k x Hx.out);have CX:=J02 (CF.out x (List.mem_of_getElem? Hx.out) wr (HL.out.more (HM.out wr Hr.out.2).1))
   have Hnx:Hid (∀w',Bld w' B B (s++numsL (L.take k)++32::digI x)->Below B w w'->∃k':Nat,k'+g=sn/\Value.int .i64 ((k:Int)+1)=V k'/\Hid (Bld w' B B (s++numsL (L.take k'))/\Below B w w')):=fun w' h m=>by
    refine⟨k+1,by omega,by simp,?_,m⟩;rw[J58 L k x Hx.out,<-List.append_assoc];exact h
   have Hlen:Hid ((s++numsL (L.take k)).length+(32::digI x).length<=140737488355328):=by
    have h1:=J5s L sn k H.out.1 (by omega);have h2:=J0m x;have h3:=H.out.2.2;show _<=_;rw[List.length_append,List.length_cons];omega
   clear CF HP;go_wp2_with (fail)
   refine CX.out.mono ?_;rintro e w3 ⟨d,rfl,hd,hdz,m3⟩;have b3:=Hr.out.2.trans (Below.mono m3 (HM.out wr Hr.out.2).2);have CZ:=J02 (CW.out _ _ d w3 hd (J42 Hr.out.1 m3) Hlen.out (HM.out w3 b3).2);have Hb3:=J02 b3;clear m3 hd CX q CW b3;go_wp2_with (fail)
   refine CZ.out.mono ?_;rintro e w4 ⟨n4,rfl,h4,b4⟩;have HN:=J02 (Hnx.out w4 h4 (Hb3.out.trans b4));clear CZ Hnx h4 b4;go_wp2;go_roundg g
   case measure=>omega
   case rel=>simp only[hk63];exact HN.out

theorem Jhs(s:List UInt8)(L:List Int)(sa:Option Addr)(sb so sn sc:Nat)(w:World)(HL0:Lai w)(hL:L.length=sn)(hb:∀x ∈ L,B64 x)(hz:s.length+22*sn<=1000000)(hs:SIn w sa sb so L):
  Calls Tryz.prog 91 #[.string (txt s),.slice sa sn sc] w fun e w'=>e=.returned (.string (txt (ansL s L)))/\More w w':=by
 suffices hP:∀P:Ending->World->Prop,(∀w',More w w'->P (.returned (.string (txt (ansL s L)))) w')->Calls Tryz.prog 91 #[.string (txt s),.slice sa sn sc] w P from hP _ (fun w' m=>⟨rfl,m⟩)
 intro P hP0;have HP:Hid (∀w',More w w'->P (.returned (.string (txt (ansL s L)))) w'):=hP0;have HL:Hid (Lai w):=HL0;obtain⟨B,HB⟩:∃x,Hid (w.heap.size=x):=⟨_,rfl⟩
 have HM:Hid (∀wr,Below B w wr->More w wr/\B<=wr.heap.size):=fun wr m=>by
  have m':More w wr:=by show Below w.heap.size w wr;rw[HB.out];exact m
  exact⟨m',by rw[<-HB.out];exact m'.size⟩
 have CF:Hid (∀x,x ∈ L->∀w1,Lai w1->Calls Tryz.prog 113 #[V x,V 10] w1 fun e w'=>∃d:ByteArray,e=.returned (.string d)/\txt [32]++d=txt (32::digI x)/\d.size<=21/\More w1 w'):=fun x hx w1 h=>by
  refine(J3e x (hb x hx) w1 h).mono ?_;rintro e w' ⟨rfl,m⟩;exact⟨_,rfl,J1k [32] _,by rw[J0e];exact J0m _,m⟩
 have CW0:Hid (∀w',Bld w' B B []->B<=w'.heap.size->Calls Tryz.prog 20 #[.pointer (some ⟨B,0,none⟩),.string (txt s)] w' fun e w''=>∃n:Int,e=.returned (.tuple #[V n,.nilIface])/\Bld w'' B B s/\Below B w' w''):=fun w' hb hB=>(J1d B B [] s w' hb (by simp;omega) hB).mono (fun e w'' h=>⟨_,h.1,h.2.1,h.2.2.1⟩)
 have CW:Hid (∀(l m:List UInt8) (d:ByteArray) w',txt [32]++d=txt m->Bld w' B B l->l.length+m.length<=140737488355328->B<=w'.heap.size->Calls Tryz.prog 20 #[.pointer (some ⟨B,0,none⟩),.string (⟨#[32]⟩++d)] w' fun e w''=>∃n:Int,e=.returned (.tuple #[V n,.nilIface])/\Bld w'' B B (l++m)/\Below B w' w''):=fun l m d w' hd hb hl hB=>by
  have hd':⟨#[32]⟩++d=txt m:=hd;rw[hd'];exact(J1d B B l m w' hb hl hB).mono (fun e w'' h=>⟨_,h.1,h.2.1,h.2.2.1⟩)
 have H:Hid (L.length=sn/\SIn w sa sb so L/\s.length+22*sn<=1000000):=⟨hL,hs,hz⟩;obtain⟨W,HW⟩:∃w_:World,Hid (w_=w.alloc (.cells #[.pointer none,.slice none 0 0] 67)):=⟨_,rfl⟩;have HB2:Hid (Bld W B B []):=by rw[<-HB.out];exact HW.out▸J3r w
 have HW0:Hid (Below B w W):=HB.out▸HW.out▸(More.refl _).alloc _ _;have C0:=J02 (CW0.out W HB2.out (HM.out W HW0.out).2);obtain⟨ss,Hss⟩:∃x,Hid (txt s=x):=⟨_,rfl⟩;rw[Hss.out]at C0 |-;clear hP0 hL hb hz hs HL0 CW0 HB2;go_enter Tryz.func91,Tryz.ntmps91;go_wp2_with (fail)
 rw[<-HW.out];rw[HB.out];refine C0.out.mono ?_;rintro e w1 ⟨n1,rfl,h1,b1⟩;have H1:Hid (Bld w1 B B s/\Below B w w1):=⟨h1,HW0.out.trans b1⟩;clear C0 h1 b1 HW0;go_wp2_with (fail)
 go_loopg [12] sn (fun g kv wr=>∃k:Nat,k+g=sn/\kv=V k/\Hid (Bld wr B B (s++numsL (L.take k))/\Below B w wr))
 case atStart=>exact⟨0,by omega,rfl,by simpa[numsL]using H1.out.1,H1.out.2⟩
 case round=>
  obtain⟨k,hkg,rfl,Hr⟩:=hrel;clear H1;cases gk with
  | zero=>
   obtain rfl:k=sn:=by omega
   have CS:=J02 (J29 B B _ wr Hr.out.1 (HM.out wr Hr.out.2).2);rw[List.take_of_length_le (by rw[H.out.1];exact Nat.le_refl _)]at CS;have HQ:=J02 (fun w' m=>HP.out w' m);unfold ansL at HQ;obtain⟨os,Hos⟩:∃x,Hid (txt (s++numsL L)=x):=⟨_,rfl⟩;rw[Hos.out]at CS HQ;clear CF CW HP;go_wp2_with (fail)
   refine CS.out.mono ?_;rintro e w3 ⟨rfl,_,b3,_⟩;have HE:=J02 (HQ.out w3 (HM.out w3 (Hr.out.2.trans b3)).1);clear b3 HQ;go_wp2;exact HE.out
  | succ g=>
   have hk:k < sn:=by omega
   have hki:(k:Int) < sn:=by omega
   have hk0:(0:Int)<=k:=by omega
   have hk63:wrap64 ((k:Int)+1)=(k:Int)+1:=by have:=H.out.2.2;unfold wrap64;omega
   obtain⟨x,Hx⟩:∃x,Hid (L[k]?=some x):=⟨_,List.getElem?_eq_getElem (by rw[H.out.1];exact hk)⟩;obtain rfl:=H.out.2.1.1 (by rw[H.out.1];omega);have q:=(HM.out wr Hr.out.2).1.cell (H.out.2.1.2 k x Hx.out);have CX:=J02 (CF.out x (List.mem_of_getElem? Hx.out) wr (HL.out.more (HM.out wr Hr.out.2).1))
   have Hnx:Hid (∀w',Bld w' B B (s++numsL (L.take k)++32::digI x)->Below B w w'->∃k':Nat,k'+g=sn/\Value.int .i64 ((k:Int)+1)=V k'/\Hid (Bld w' B B (s++numsL (L.take k'))/\Below B w w')):=fun w' h m=>by
    refine⟨k+1,by omega,by simp,?_,m⟩;rw[J58 L k x Hx.out,<-List.append_assoc];exact h
   have Hlen:Hid ((s++numsL (L.take k)).length+(32::digI x).length<=140737488355328):=by
    have h1:=J5s L sn k H.out.1 (by omega);have h2:=J0m x;have h3:=H.out.2.2;show _<=_;rw[List.length_append,List.length_cons];omega
   clear CF HP;go_wp2_with (fail)
   refine CX.out.mono ?_;rintro e w3 ⟨d,rfl,hd,hdz,m3⟩;have b3:=Hr.out.2.trans (Below.mono m3 (HM.out wr Hr.out.2).2);have CZ:=J02 (CW.out _ _ d w3 hd (J42 Hr.out.1 m3) Hlen.out (HM.out w3 b3).2);have Hb3:=J02 b3;clear m3 hd CX q CW b3;go_wp2_with (fail)
   refine CZ.out.mono ?_;rintro e w4 ⟨n4,rfl,h4,b4⟩;have HN:=J02 (Hnx.out w4 h4 (Hb3.out.trans b4));clear CZ Hnx h4 b4;go_wp2;go_roundg g
   case measure=>omega
   case rel=>simp only[hk63];exact HN.out

theorem Jad(s:List UInt8)(L:List Int)(sa:Option Addr)(sb so sn sc:Nat)(w:World)(HL0:Lai w)(hL:L.length=sn)(hb:∀x ∈ L,B64 x)(hz:s.length+22*sn<=1000000)(hs:SIn w sa sb so L):
  Calls Tryz.prog 92 #[.string (txt s),.slice sa sn sc] w fun e w'=>e=.returned (.string (txt (ansL s L)))/\More w w':=by
 suffices hP:∀P:Ending->World->Prop,(∀w',More w w'->P (.returned (.string (txt (ansL s L)))) w')->Calls Tryz.prog 92 #[.string (txt s),.slice sa sn sc] w P from hP _ (fun w' m=>⟨rfl,m⟩)
 intro P hP0;have HP:Hid (∀w',More w w'->P (.returned (.string (txt (ansL s L)))) w'):=hP0;have HL:Hid (Lai w):=HL0;obtain⟨B,HB⟩:∃x,Hid (w.heap.size=x):=⟨_,rfl⟩
 have HM:Hid (∀wr,Below B w wr->More w wr/\B<=wr.heap.size):=fun wr m=>by
  have m':More w wr:=by show Below w.heap.size w wr;rw[HB.out];exact m
  exact⟨m',by rw[<-HB.out];exact m'.size⟩
 have CF:Hid (∀x,x ∈ L->∀w1,Lai w1->Calls Tryz.prog 113 #[V x,V 10] w1 fun e w'=>∃d:ByteArray,e=.returned (.string d)/\txt [32]++d=txt (32::digI x)/\d.size<=21/\More w1 w'):=fun x hx w1 h=>by
  refine(J3e x (hb x hx) w1 h).mono ?_;rintro e w' ⟨rfl,m⟩;exact⟨_,rfl,J1k [32] _,by rw[J0e];exact J0m _,m⟩
 have CW0:Hid (∀w',Bld w' B B []->B<=w'.heap.size->Calls Tryz.prog 20 #[.pointer (some ⟨B,0,none⟩),.string (txt s)] w' fun e w''=>∃n:Int,e=.returned (.tuple #[V n,.nilIface])/\Bld w'' B B s/\Below B w' w''):=fun w' hb hB=>(J1d B B [] s w' hb (by simp;omega) hB).mono (fun e w'' h=>⟨_,h.1,h.2.1,h.2.2.1⟩)
 have CW:Hid (∀(l m:List UInt8) (d:ByteArray) w',txt [32]++d=txt m->Bld w' B B l->l.length+m.length<=140737488355328->B<=w'.heap.size->Calls Tryz.prog 20 #[.pointer (some ⟨B,0,none⟩),.string (⟨#[32]⟩++d)] w' fun e w''=>∃n:Int,e=.returned (.tuple #[V n,.nilIface])/\Bld w'' B B (l++m)/\Below B w' w''):=fun l m d w' hd hb hl hB=>by
  have hd':⟨#[32]⟩++d=txt m:=hd;rw[hd'];exact(J1d B B l m w' hb hl hB).mono (fun e w'' h=>⟨_,h.1,h.2.1,h.2.2.1⟩)
 have H:Hid (L.length=sn/\SIn w sa sb so L/\s.length+22*sn<=1000000):=⟨hL,hs,hz⟩;obtain⟨W,HW⟩:∃w_:World,Hid (w_=w.alloc (.cells #[.pointer none,.slice none 0 0] 67)):=⟨_,rfl⟩;have HB2:Hid (Bld W B B []):=by rw[<-HB.out];exact HW.out▸J3r w
 have HW0:Hid (Below B w W):=HB.out▸HW.out▸(More.refl _).alloc _ _;have C0:=J02 (CW0.out W HB2.out (HM.out W HW0.out).2);obtain⟨ss,Hss⟩:∃x,Hid (txt s=x):=⟨_,rfl⟩;rw[Hss.out]at C0 |-;clear hP0 hL hb hz hs HL0 CW0 HB2;go_enter Tryz.func92,Tryz.ntmps92;go_wp2_with (fail)
 rw[<-HW.out];rw[HB.out];refine C0.out.mono ?_;rintro e w1 ⟨n1,rfl,h1,b1⟩;have H1:Hid (Bld w1 B B s/\Below B w w1):=⟨h1,HW0.out.trans b1⟩;clear C0 h1 b1 HW0;go_wp2_with (fail)
 go_loopg [12] sn (fun g kv wr=>∃k:Nat,k+g=sn/\kv=V k/\Hid (Bld wr B B (s++numsL (L.take k))/\Below B w wr))
 case atStart=>exact⟨0,by omega,rfl,by simpa[numsL]using H1.out.1,H1.out.2⟩
 case round=>
  obtain⟨k,hkg,rfl,Hr⟩:=hrel;clear H1;cases gk with
  | zero=>
   obtain rfl:k=sn:=by omega
   have CS:=J02 (J29 B B _ wr Hr.out.1 (HM.out wr Hr.out.2).2);rw[List.take_of_length_le (by rw[H.out.1];exact Nat.le_refl _)]at CS;have HQ:=J02 (fun w' m=>HP.out w' m);unfold ansL at HQ;obtain⟨os,Hos⟩:∃x,Hid (txt (s++numsL L)=x):=⟨_,rfl⟩;rw[Hos.out]at CS HQ;clear CF CW HP;go_wp2_with (fail)
   refine CS.out.mono ?_;rintro e w3 ⟨rfl,_,b3,_⟩;have HE:=J02 (HQ.out w3 (HM.out w3 (Hr.out.2.trans b3)).1);clear b3 HQ;go_wp2;exact HE.out
  | succ g=>
   have hk:k < sn:=by omega
   have hki:(k:Int) < sn:=by omega
   have hk0:(0:Int)<=k:=by omega
   have hk63:wrap64 ((k:Int)+1)=(k:Int)+1:=by have:=H.out.2.2;unfold wrap64;omega
   obtain⟨x,Hx⟩:∃x,Hid (L[k]?=some x):=⟨_,List.getElem?_eq_getElem (by rw[H.out.1];exact hk)⟩;obtain rfl:=H.out.2.1.1 (by rw[H.out.1];omega);have q:=(HM.out wr Hr.out.2).1.cell (H.out.2.1.2 k x Hx.out);have CX:=J02 (CF.out x (List.mem_of_getElem? Hx.out) wr (HL.out.more (HM.out wr Hr.out.2).1))
   have Hnx:Hid (∀w',Bld w' B B (s++numsL (L.take k)++32::digI x)->Below B w w'->∃k':Nat,k'+g=sn/\Value.int .i64 ((k:Int)+1)=V k'/\Hid (Bld w' B B (s++numsL (L.take k'))/\Below B w w')):=fun w' h m=>by
    refine⟨k+1,by omega,by simp,?_,m⟩;rw[J58 L k x Hx.out,<-List.append_assoc];exact h
   have Hlen:Hid ((s++numsL (L.take k)).length+(32::digI x).length<=140737488355328):=by
    have h1:=J5s L sn k H.out.1 (by omega);have h2:=J0m x;have h3:=H.out.2.2;show _<=_;rw[List.length_append,List.length_cons];omega
   clear CF HP;go_wp2_with (fail)
   refine CX.out.mono ?_;rintro e w3 ⟨d,rfl,hd,hdz,m3⟩;have b3:=Hr.out.2.trans (Below.mono m3 (HM.out wr Hr.out.2).2);have CZ:=J02 (CW.out _ _ d w3 hd (J42 Hr.out.1 m3) Hlen.out (HM.out w3 b3).2);have Hb3:=J02 b3;clear m3 hd CX q CW b3;go_wp2_with (fail)
   refine CZ.out.mono ?_;rintro e w4 ⟨n4,rfl,h4,b4⟩;have HN:=J02 (Hnx.out w4 h4 (Hb3.out.trans b4));clear CZ Hnx h4 b4;go_wp2;go_roundg g
   case measure=>omega
   case rel=>simp only[hk63];exact HN.out
end
section
open Go
section
variable {P:Program} {ops:Array Oper} {Q:Exit->Act->World->Prop} {S:World->Prop}

theorem Jhg{i:Nat}{o:Oper}{a:Act}{w:World}{K K':Act->World->Prop}(ho:ops[i]?=some o)(h:J23 P ops Q o a w K)(hK:∀a w,K a w->K' a w):wpOp P ops Q i K' a w:=by
 unfold J23 at h;unfold wpOp;rw[ho];show if Region.wanted o (yielded ops a.tmps)=true then _ else _
 by_cases hw:Region.wanted o (yielded ops a.tmps)=true
 ·rw[if_pos hw]at h |-
  exact .inl (Oper.wp_mono hK h)
 ·rw[if_neg hw]at h |-
  exact hK _ _ h

structure OrdL(P:Program)(ops:Array Oper)(Q:Exit->Act->World->Prop)(S:World->Prop)(n:Nat)(listed:Array Bool)(a:Act)(w:World):Prop where
 out:wpAnyH P .any ops Q S n listed a w

theorem J10{id:Nat}{a:Act}{w:World}(hm:P.follows .mixedOrders=true)(hS:S w.drew)
  (h:OrdL P ops (NoPanic Q) S ops.size (Array.replicate ops.size false) a w.drew):(Code.region id ops true).wp P Q a w:=
 wp_region_noPanic (wp_region_held_drew (S:=S) hm hS (fun _=>h.out))

theorem J05{ls:List Oper}(i:Nat){o:Oper}{n:Nat}{listed:Array Bool}{a:Act}{w:World}(ho':nth ls i=some o)
  (hB:(Region.noSelect ls.toArray&&(Region.free .any ls.toArray listed i&&(Region.ready .any ls.toArray listed).contains i))=true) (hS:S w) (hw:Region.wanted o (yielded ls.toArray a.tmps)=true)
  (h:∀K:Act->World->Prop,(∀a w,OrdL P ls.toArray (NoPanic Q) S n (listed.setIfInBounds i true) a w->K a w)->∃v,(∀i:{ w' // S w' },(execOp a.eval o).run P i.val=.ok (.value v) i.val)/\K (a.put o.dst v) w):
  OrdL P ls.toArray (NoPanic Q) S (n+1) listed a w:=by
 simp only[Bool.and_eq_true]at hB;obtain⟨v,hv,hk⟩:=h (fun a w=>wpAnyH P .any ls.toArray (NoPanic Q) S n (listed.setIfInBounds i true) a w) (fun _ _ h=>h.out);exact⟨wpAnyH_take (J26 ho') hB.1 hB.2.1 hB.2.2 (fun _ _ _ h=>h) (.inl ⟨hw,fun w' hw'=>hv ⟨w',hw'⟩⟩) hS hk⟩

structure J83(P:Program)(ops:Array Oper)(Q:Exit->Act->World->Prop)(S:World->Prop)(i n:Nat)(listed:Array Bool)(a:Act)(w:World):Prop where
 out:wpOp P ops Q i (fun a' w'=>S w'/\wpAnyH P .any ops Q S n (listed.setIfInBounds i true) a' w') a w

theorem J0b{ls:List Oper}{i:Nat}{o:Oper}{n:Nat}{listed:Array Bool}{a:Act}{w:World}(ho':nth ls i=some o)(hw:Region.wanted o (yielded ls.toArray a.tmps)=true)
  (h:∀K:Act->World->Prop,(∀a w,S w->OrdL P ls.toArray Q S n (listed.setIfInBounds i true) a w->K a w)->Oper.wp P o a w K Q):J83 P ls.toArray Q S i n listed a w:=by
 refine⟨Jhg (J26 ho') (K:=fun a' w'=>S w'/\wpAnyH P .any ls.toArray Q S n (listed.setIfInBounds i true) a' w') ?_ (fun _ _ h=>h)⟩;unfold J23;rw[if_pos hw];exact h _ (fun _ _ hs h=>⟨hs,h.out⟩)

theorem J0k(i:Nat){n:Nat}{listed:Array Bool}{a:Act}{w:World}(hB:(Region.ready .any ops listed==[i])=true)(h:J83 P ops Q S i n listed a w):OrdL P ops Q S (n+1) listed a w:=by
 refine⟨wpAnyH_all (by simpa using hB) (by simp) (fun j hj=>?_)⟩;obtain rfl:j=i:=by simpa using hj
 exact h.out
theorem J2x(i j:Nat){n:Nat}{listed:Array Bool}{a:Act}{w:World}(hB:(Region.ready .any ops listed==[i,j])=true)(h:J83 P ops Q S i n listed a w)(k:J83 P ops Q S j n listed a w):OrdL P ops Q S (n+1) listed a w:=by
 refine⟨wpAnyH_all (by simpa using hB) (by simp) (fun x hx=>?_)⟩;have hx':x=i\/x=j:=by simpa using hx
 rcases hx' with rfl | rfl
 ·exact h.out
 ·exact k.out
theorem J4r{n:Nat}{listed:Array Bool}{a:Act}{w:World}(hB:(Region.ready .any ops listed==[])=true)(h:Q .normal a w):OrdL P ops (NoPanic Q) S n listed a w:=
 ⟨wpAnyH_done (by simpa using hB) (show NoPanic Q .normal a w from h) n⟩

end
end
section
open Go.RowKit
set_option linter.unusedSimpArgs false
set_option linter.unusedVariables false
set_option maxRecDepth 8000
theorem J4y{g:Nat}{T:TypeId}:∀(vs:List Value) (o:Nat) (c:Array Value) (w:World),w.heap[g]?=some (.cells c T (0,0))->o+vs.length<=c.size->
  ∃c',(w.setCells g o vs).heap[g]?=some (.cells c' T (0,0))/\c'.size=c.size/\∀j,c'[j]?=if o<=j/\j < o+vs.length then vs[j - o]? else c[j]?
 | [],o,c,w,h,_=>⟨c,h,rfl,fun j=>by rw[if_neg (by simp<;>omega)]⟩
 | v::vs,o,c,w,h,hl=>by
  simp only[List.length_cons]at hl
  have h1:(w.setCell ⟨g,o,none⟩ v).heap[g]?=some (.cells (c.setIfInBounds o v) T (0,0)):=by
   rw[setCell_eq_setRow w g o c T (0,0) v h];exact setRow_heap w g c _ T _ h
  obtain⟨c',k1,k2,k3⟩:=J4y vs (o+1) _ _ h1 (by simp;omega);refine⟨c',k1,by simpa using k2,fun j=>?_⟩;rw[k3 j,Array.getElem?_setIfInBounds];simp only[List.length_cons];by_cases e:j=o
  ·subst e
   rw[if_neg (by omega),if_pos rfl,if_pos (by omega),if_pos (by omega)]
   simp
  ·by_cases e2:o+1<=j/\j < o+1+vs.length
   ·rw[if_pos e2,if_pos (by omega),show j - o=(j - (o+1))+1 by omega]
    simp
   ·rw[if_neg e2,if_neg (fun h=>e h.symm),if_neg (by omega)]
theorem Jfs(off:Nat):∀(l:List Value) (k:Nat) (cs:Array Value),off+k+l.length<=cs.size->
  ((l.zipIdx k).foldl (fun cs (x:Value × Nat)=>cs.setIfInBounds (off+x.2) x.1) cs).size=cs.size/\∀j,((l.zipIdx k).foldl (fun cs (x:Value × Nat)=>cs.setIfInBounds (off+x.2) x.1) cs)[j]?=if off+k<=j/\j < off+k+l.length then l[j - (off+k)]? else cs[j]?
 | [],k,cs,_=>⟨rfl,fun j=>by rw[if_neg (by simp<;>omega)];rfl⟩
 | v::l,k,cs,h=>by
  simp only[List.length_cons]at h;obtain⟨h1,h2⟩:=Jfs off l (k+1) (cs.setIfInBounds (off+k) v) (by simp;omega);simp only[List.zipIdx_cons,List.foldl_cons];refine⟨by rw[h1];simp,fun j=>?_⟩;rw[h2 j,Array.getElem?_setIfInBounds];simp only[List.length_cons];by_cases e:j=off+k
  ·subst e
   rw[if_neg (by omega),if_pos rfl,if_pos (by omega),if_pos (by omega)]
   simp
  ·by_cases e2:off+(k+1)<=j/\j < off+(k+1)+l.length
   ·rw[if_pos e2,if_pos (by omega),show j - (off+k)=(j - (off+(k+1)))+1 by omega]
    simp
   ·rw[if_neg e2,if_neg (fun h=>e h.symm),if_neg (by omega)]
theorem J37(place:Nat->Option (Nat × Nat))(cs:Array Value)(i:Nat)(v:Value)(rest:List (Nat × Value))(off size:Nat)(hp:place i=some (off,size))(hv:v.cells.size=size)(hs:off+size<=cs.size):
  ∃cs',Instr.fill place cs ((i,v)::rest)=Instr.fill place cs' rest/\cs'.size=cs.size/\∀j,cs'[j]?=if off<=j/\j < off+size then v.cells[j - off]? else cs[j]?:=by
 obtain⟨h1,h2⟩:=Jfs off v.cells.toList 0 cs (by simp;omega)
 have e:v.cells.zipIdx.foldl (fun cs (x:Value × Nat)=>cs.setIfInBounds (off+x.2) x.1) cs=(v.cells.toList.zipIdx 0).foldl (fun cs (x:Value × Nat)=>cs.setIfInBounds (off+x.2) x.1) cs:=by
  rw[<-Array.foldl_toList]
  simp
 refine⟨_,?_,h1,fun j=>?_⟩
 ·rw[Instr.fill]
  simp only[hp];rw[if_neg (by simp;omega)];rw[<-e]
 ·rw[h2 j]
  simp only[Nat.add_zero,Array.length_toList,hv,Array.getElem?_toList]
theorem J4h{P:Program}{t:TypeId}{fields:Array Field}{it:TypeInfo}{z:Value}{places:List (Nat × Nat)}(hi:P.info? t=some it)(hu:P.underlying t=some (.struct fields))(hz:it.zero=some z)
  (hp:fields.toList.mapM (fun f=>(P.info? f.type).map fun i=>(f.offset,i.size))=some places) (parts:List (Nat × Value)):P.built t parts=Instr.fill (places.toArray[·]?) z.cells parts:=by
 unfold Program.built;simp only[hi,hu,hz,hp]

def J55(P:Program)(t:TypeId):List Field:=match P.underlying t with | some (.struct fs)=>fs.toList | _=>[]
end
section
open Go.RowKit
def bnd(k:Int):Int:=if k < 0\/16 < k then 17 else k

def fitI(n:Int):Int:=bnd (bitLen (toU n):Int)

def opB(op a b:Int):Int:=
 if op=1 then(if a=0\/b=0 then max a b else bnd (max a b+1))
 else if op=3 then(if a=0\/b=0 then 0 else bnd (a+b))
 else if op=4 then min a b
 else if op=5\/op=6 then max a b
 else if op=8\/op=9\/op=10 then a
 else 17

theorem J12(k:Int):0<=bnd k/\bnd k<=17:=by unfold bnd;split<;>omega
theorem J4g{k:Int}(h0:0<=k)(h1:k<=17):bnd k=k:=by unfold bnd;split<;>omega
theorem Jai{k:Int}(h:k < 0\/16 < k):bnd k=17:=by unfold bnd;rw[if_pos h]
theorem Joq{k:Int}(h0:0<=k)(h1:k<=16):bnd k=k:=J4g h0 (by omega)

theorem Ji3(u b:Nat):bitLen u<=b↔u < 2 ^ b:=by
 have⟨h1,h2⟩:=bitLen_spec u;constructor
 ·intro h;exact Nat.lt_of_lt_of_le h1 (Nat.pow_le_pow_right (by decide) h)
 ·intro h
  by_cases h0:u=0
  ·subst h0;simp[bitLen]
  ·have h3:=h2 h0
   have h4:2 ^ (bitLen u - 1) < 2 ^ b:=Nat.lt_of_le_of_lt h3 h;have h5:=(Nat.pow_lt_pow_iff_right (a:=2) (by decide)).1 h4;omega

theorem Joe{n:Int}(h0:n < 0)(h1:-9223372036854775808<=n):9223372036854775808<=toU n:=by unfold toU;omega

theorem Jij(n:Int):0<=fitI n/\fitI n<=17:=J12 _
end
section
open Go.RowKit
set_option linter.unusedVariables false
structure Kn where
 b:Int
 s:Bool

namespace Kn
def of(n:Int):Kn:=⟨fitI n,false⟩
def join(x y:Kn):Kn:=⟨max (bnd x.b) (bnd y.b),x.s||y.s⟩
def less(x y:Kn):Kn:=⟨min (bnd x.b) (bnd y.b),x.s⟩
def op(o:Int)(x y:Kn):Kn:=⟨opB o (bnd x.b) (bnd y.b),x.s||y.s⟩
def index(k:Kn)(n:Int):Kn:=if n < 0 then⟨17,k.s⟩ else op 1 k (of n)
def Norm(x:Kn):Prop:=0<=x.b/\x.b<=17
def le(x y:Kn):Prop:=bnd x.b<=bnd y.b/\(x.s=true->y.s=true)

theorem le_refl(x:Kn):le x x:=⟨Int.le_refl _,id⟩
theorem le_trans{x y z:Kn}(h:le x y)(k:le y z):le x z:=⟨Int.le_trans h.1 k.1,fun q=>k.2 (h.2 q)⟩
theorem le_anti{x y:Kn}(hx:x.Norm)(hy:y.Norm)(h:le x y)(k:le y x):x=y:=by
 have e1:=J4g hx.1 hx.2;have e2:=J4g hy.1 hy.2;have hb:x.b=y.b:=by have:=h.1;have:=k.1;omega
 have hs:x.s=y.s:=Bool.eq_iff_iff.2 ⟨h.2,k.2⟩;cases x;cases y;simp_all

theorem Jj7(o:Int){a b:Int}(h0:0<=a)(h1:a<=17)(h2:0<=b)(h3:b<=17):0<=opB o a b/\opB o a b<=17:=by
 have hb:=fun k=>J12 k
 unfold opB
 split
 ·split
  ·omega
  ·exact hb _
 split
 ·split
  ·omega
  ·exact hb _
 split
 ·omega
 split
 ·omega
 split
 ·omega
 ·omega
theorem Jlf(o:Int){a a' b b':Int}(h0:0<=a)(h1:a<=a')(h2:a'<=17)(k0:0<=b)(k1:b<=b')(k2:b'<=17):opB o a b<=opB o a' b':=by
 unfold opB
 split
 ·unfold bnd
  split<;>split<;>(repeat' split)<;>omega
 split
 ·unfold bnd
  split<;>split<;>(repeat' split)<;>omega
 split
 ·omega
 split
 ·omega
 split
 ·omega
 ·omega

theorem norm_of(n:Int):(of n).Norm:=Jij n
theorem norm_join(x y:Kn):(join x y).Norm:=by have:=J12 x.b;have:=J12 y.b;unfold join Norm;dsimp only;omega
theorem norm_less(x y:Kn):(less x y).Norm:=by have:=J12 x.b;have:=J12 y.b;unfold less Norm;dsimp only;omega
theorem norm_op(o:Int)(x y:Kn):(op o x y).Norm:=by have hx:=J12 x.b;have hy:=J12 y.b;exact Jj7 o hx.1 hx.2 hy.1 hy.2
theorem norm_index(k:Kn)(n:Int):(index k n).Norm:=by
 unfold index;split
 ·unfold Norm;dsimp only;omega
 ·exact norm_op _ _ _

theorem bnd_norm{x:Kn}(h:x.Norm):bnd x.b=x.b:=J4g h.1 h.2
theorem join_l(x y:Kn):le x (join x y):=by
 have:=bnd_norm (norm_join x y);unfold le;rw[this];unfold join;dsimp only;exact⟨by omega,fun h=>by simp[h]⟩
theorem join_r(x y:Kn):le y (join x y):=by
 have:=bnd_norm (norm_join x y);unfold le;rw[this];unfold join;dsimp only;exact⟨by omega,fun h=>by simp[h]⟩
theorem join_le{x y z:Kn}(h:le x z)(k:le y z):le (join x y) z:=by
 have:=bnd_norm (norm_join x y);unfold le at *;rw[this];unfold join;dsimp only;refine⟨by omega,fun q=>?_⟩;rcases Bool.or_eq_true_iff.1 q with q | q
 ·exact h.2 q
 ·exact k.2 q
theorem less_mono{x x' y y':Kn}(h:le x x')(k:le y y'):le (less x y) (less x' y'):=by
 have e1:=bnd_norm (norm_less x y);have e2:=bnd_norm (norm_less x' y');unfold le at *;rw[e1,e2];unfold less;dsimp only;exact⟨by omega,h.2⟩
theorem op_mono(o:Int){x x' y y':Kn}(h:le x x')(k:le y y'):le (op o x y) (op o x' y'):=by
 have e1:=bnd_norm (norm_op o x y);have e2:=bnd_norm (norm_op o x' y');unfold le at *;rw[e1,e2];unfold op;dsimp only;have r1:=J12 x.b;have r2:=J12 x'.b;have r3:=J12 y.b;have r4:=J12 y'.b;refine⟨Jlf o r1.1 h.1 r2.2 r3.1 k.1 r4.2,fun q=>?_⟩;rcases Bool.or_eq_true_iff.1 q with q | q
 ·rw[h.2 q];rfl
 ·rw[k.2 q];simp
theorem index_mono{x x':Kn}(n:Int)(h:le x x'):le (index x n) (index x' n):=by
 unfold index;split
 ·exact⟨Int.le_refl _,h.2⟩
 ·exact op_mono 1 h (le_refl _)
end Kn

abbrev KS:=Nat->Kn

def setK(s:KS)(a:Int)(v:Kn):KS:=fun j=>if j=a.toNat then v else s j

def nextK(p:Prg)(i:Ins)(s:KS):KS:=
 if i.op=1 then setK s i.a (Kn.of i.n)
 else if i.op=2 then setK s i.a (s i.b.toNat)
 else if i.op=10 then setK s i.a (Kn.index (s i.b.toNat) i.n)
 else if i.op=3\/i.op=5 then setK s i.a ⟨17,p.sec i.c.toNat⟩
 else if i.op=11 then setK s i.a (Kn.less (s i.a.toNat) (Kn.of (wrap64 (i.n - 1))))
 else if i.op=4\/i.op=6\/i.op=12 then s
 else setK s i.a (Kn.op (i.op - 20) (s i.b.toNat) (s i.c.toNat))

def J7f(i:Ins)(s:KS):KS:=setK s i.a (Kn.less (s i.a.toNat) (s i.b.toNat))
def J5x(i:Ins)(s:KS):KS:=setK s i.b (Kn.less (s i.b.toNat) (s i.a.toNat))
def bothK(i:Ins)(s:KS):KS:=setK (J7f i s) i.b (Kn.less (s i.b.toNat) (s i.a.toNat))

def yesK(i:Ins)(s:KS):KS:=if i.c=1 then bothK i s else if i.c=2 then s else if i.c=3 then J7f i s else J5x i s
def noK(i:Ins)(s:KS):KS:=if i.c=1 then s else if i.c=2 then bothK i s else if i.c=3 then J5x i s else J7f i s

def J1w(p:Prg)(at_:Nat)(s:KS):List (Nat × KS):=
 if(p.ins at_).op=7 then[((p.ins at_).n.toNat,s)]
 else if(p.ins at_).op=9 then[]
 else if(p.ins at_).op=8 then[((p.ins at_).n.toNat,yesK (p.ins at_) s),(at_+1,noK (p.ins at_) s)]
 else[(at_+1,nextK p (p.ins at_) s)]

def leS(s t:KS):Prop:=∀j,j < 8->Kn.le (s j) (t j)
def NormS(s:KS):Prop:=∀j,j < 8->(s j).Norm
theorem Jb8(s:KS):leS s s:=fun _ _=>Kn.le_refl _
theorem J8i{s t u:KS}(h:leS s t)(k:leS t u):leS s u:=fun j hj=>Kn.le_trans (h j hj) (k j hj)

theorem J2f{s t:KS}(h:leS s t){a:Int}{v v':Kn}(k:Kn.le v v'):leS (setK s a v) (setK t a v'):=fun j hj=>by
 unfold setK;split
 ·exact k
 ·exact h j hj
theorem J2g{s:KS}(h:NormS s){a:Int}{v:Kn}(k:v.Norm):NormS (setK s a v):=fun j hj=>by
 unfold setK;split
 ·exact k
 ·exact h j hj

theorem J5w{p:Prg}{i:Ins}(h:InsOk p.rl p.log p.cl 8 i):
  (¬(i.op=7\/i.op=12)->i.a.toNat < 8)/\(i.op=2\/i.op=3\/i.op=4\/i.op=8\/i.op=10\/21<=i.op->i.b.toNat < 8)/\(21<=i.op->i.c.toNat < 8)/\
  (1<=i.op/\i.op<=12\/21<=i.op/\i.op<=30):=by
 unfold InsOk Reg at h;have hop:i.op=1\/i.op=2\/i.op=3\/i.op=4\/i.op=5\/i.op=6\/i.op=7\/i.op=8\/i.op=9\/i.op=10\/i.op=11\/i.op=12\/¬(1<=i.op/\i.op<=12):=by omega
 rcases hop with h1 | h1 | h1 | h1 | h1 | h1 | h1 | h1 | h1 | h1 | h1 | h1 | h1
 all_goals first
  | (simp[h1]at h;omega)
  | (rw[if_neg (by omega),if_neg (by omega),if_neg (by omega),if_neg (by omega),if_neg (by omega),if_neg (by omega),if_neg (by omega),if_neg (by omega),if_neg (by omega),if_neg (by omega),if_neg (by omega),if_neg (by omega)]at h;omega)

section
variable {p:Prg} {i:Ins}
theorem J5o(hi:InsOk p.rl p.log p.cl 8 i)(h8:i.op=8){s t:KS}(h:leS s t):leS (J7f i s) (J7f i t):=by
 have hr:=J5w hi;exact J2f h (Kn.less_mono (h _ (hr.1 (by omega))) (h _ (hr.2.1 (by omega))))
theorem J7m(hi:InsOk p.rl p.log p.cl 8 i)(h8:i.op=8){s t:KS}(h:leS s t):leS (J5x i s) (J5x i t):=by
 have hr:=J5w hi;exact J2f h (Kn.less_mono (h _ (hr.2.1 (by omega))) (h _ (hr.1 (by omega))))
theorem J9p(hi:InsOk p.rl p.log p.cl 8 i)(h8:i.op=8){s t:KS}(h:leS s t):leS (bothK i s) (bothK i t):=by
 have hr:=J5w hi;exact J2f (J5o hi h8 h) (Kn.less_mono (h _ (hr.2.1 (by omega))) (h _ (hr.1 (by omega))))
theorem Jjz(hi:InsOk p.rl p.log p.cl 8 i)(h8:i.op=8){s t:KS}(h:leS s t):leS (yesK i s) (yesK i t):=by
 unfold yesK
 split
 ·exact J9p hi h8 h
 split
 ·exact h
 split
 ·exact J5o hi h8 h
 ·exact J7m hi h8 h
theorem Jld(hi:InsOk p.rl p.log p.cl 8 i)(h8:i.op=8){s t:KS}(h:leS s t):leS (noK i s) (noK i t):=by
 unfold noK
 split
 ·exact h
 split
 ·exact J9p hi h8 h
 split
 ·exact J7m hi h8 h
 ·exact J5o hi h8 h
theorem Jhb(hi:InsOk p.rl p.log p.cl 8 i)(h7:¬i.op=7)(h8:¬i.op=8)(h9:¬i.op=9){s t:KS}(h:leS s t):leS (nextK p i s) (nextK p i t):=by
 have hr:=J5w hi;unfold nextK
 split
 ·exact J2f h (Kn.le_refl _)
 split
 ·exact J2f h (h _ (hr.2.1 (by omega)))
 split
 ·exact J2f h (Kn.index_mono _ (h _ (hr.2.1 (by omega))))
 split
 ·exact J2f h (Kn.le_refl _)
 split
 ·exact J2f h (Kn.less_mono (h _ (hr.1 (by omega))) (Kn.le_refl _))
 split
 ·exact h
 ·exact J2f h (Kn.op_mono _ (h _ (hr.2.1 (by omega))) (h _ (hr.2.2.1 (by omega))))
theorem Jhc{s:KS}(hi:InsOk p.rl p.log p.cl 8 i)(h7:¬i.op=7)(h8:¬i.op=8)(h9:¬i.op=9)(h:NormS s):NormS (nextK p i s):=by
 have hr:=J5w hi;unfold nextK
 split
 ·exact J2g h (Kn.norm_of _)
 split
 ·exact J2g h (h _ (hr.2.1 (by omega)))
 split
 ·exact J2g h (Kn.norm_index _ _)
 split
 ·exact J2g h (by unfold Kn.Norm;dsimp only;omega)
 split
 ·exact J2g h (Kn.norm_less _ _)
 split
 ·exact h
 ·exact J2g h (Kn.norm_op _ _ _)
theorem J5p{s:KS}(h:NormS s):NormS (J7f i s):=J2g h (Kn.norm_less _ _)
theorem J7n{s:KS}(h:NormS s):NormS (J5x i s):=J2g h (Kn.norm_less _ _)
theorem J9q{s:KS}(h:NormS s):NormS (bothK i s):=J2g (J5p h) (Kn.norm_less _ _)
theorem Jk0{s:KS}(h:NormS s):NormS (yesK i s):=by
 unfold yesK
 split
 ·exact J9q h
 split
 ·exact h
 split
 ·exact J5p h
 ·exact J7n h
theorem Jle{s:KS}(h:NormS s):NormS (noK i s):=by
 unfold noK
 split
 ·exact h
 split
 ·exact J9q h
 split
 ·exact J7n h
 ·exact J5p h
end

abbrev KV:=Nat->Option KS

theorem Jh3{p:Prg}{at_:Nat}(hi:InsOk p.rl p.log p.cl 8 (p.ins at_)){s t:KS}(h:leS s t){x:Nat × KS}(hx:x ∈ J1w p at_ s):∃y,(x.1,y) ∈ J1w p at_ t/\leS x.2 y:=by
 unfold J1w at *;by_cases h7:(p.ins at_).op=7
 ·rw[if_pos h7]at*
  simp at hx;subst hx;exact⟨t,by simp,h⟩
 rw[if_neg h7]at *;by_cases h9:(p.ins at_).op=9
 ·rw[if_pos h9]at *;simp at hx
 rw[if_neg h9]at *;by_cases h8:(p.ins at_).op=8
 ·rw[if_pos h8]at*
  simp at hx;rcases hx with rfl | rfl
  ·exact⟨_,List.mem_cons_self,Jjz hi h8 h⟩
  ·exact⟨noK (p.ins at_) t,by simp,Jld hi h8 h⟩
 ·rw[if_neg h8]at*
  simp at hx;subst hx;exact⟨nextK p (p.ins at_) t,by simp,Jhb hi h7 h8 h9 h⟩

theorem Jh4{p:Prg}{at_:Nat}(hi:InsOk p.rl p.log p.cl 8 (p.ins at_)){s:KS}(h:NormS s){x:Nat × KS}(hx:x ∈ J1w p at_ s):NormS x.2:=by
 unfold J1w at *;by_cases h7:(p.ins at_).op=7
 ·rw[if_pos h7]at*
  simp at hx;subst hx;exact h
 rw[if_neg h7]at *;by_cases h9:(p.ins at_).op=9
 ·rw[if_pos h9]at *;simp at hx
 rw[if_neg h9]at *;by_cases h8:(p.ins at_).op=8
 ·rw[if_pos h8]at*
  simp at hx;rcases hx with rfl | rfl
  ·exact Jk0 h
  ·exact Jle h
 ·rw[if_neg h8]at*
  simp at hx;subst hx;exact Jhc hi h7 h8 h9 h

def zeroK:KS:=fun _=>⟨0,false⟩

structure Jf9(p:Prg)(l:KV):Prop where
 first:∃s,l 0=some s/\leS zeroK s
 leads:∀at_ s,at_ < p.cl->l at_=some s->∀x ∈ J1w p at_ s,x.1 < p.cl->∃u,l x.1=some u/\leS x.2 u

def Jmm(p:Prg)(l l':KV):Prop:=∀at_ s,at_ < p.cl->l at_=some s->∃u,l' at_=some u/\leS s u
def NormV(p:Prg)(l:KV):Prop:=∀at_ s,at_ < p.cl->l at_=some s->NormS s

structure Known(p:Prg)(l:KV):Prop where
 closed:Jf9 p l
 norm:NormV p l
 least:∀l',Jf9 p l'->Jmm p l l'

theorem Known.one{p:Prg}{l l':KV}(h:Known p l)(k:Known p l'){at_:Nat}(ha:at_ < p.cl):
  (l at_=none/\l' at_=none)\/∃s t,l at_=some s/\l' at_=some t/\∀j,j < 8->s j=t j:=by
 cases e:l at_ with
 | none=>
  cases e':l' at_ with
  | none=>exact .inl ⟨rfl,rfl⟩
  | some t=>
   obtain⟨u,hu,_⟩:=k.least l h.closed at_ t ha e';rw[e]at hu;cases hu
 | some s=>
  obtain⟨t,ht,hst⟩:=h.least l' k.closed at_ s ha e;obtain⟨u,hu,htu⟩:=k.least l h.closed at_ t ha ht;rw[e]at hu;cases hu;exact .inr ⟨s,t,rfl,ht,fun j hj=>Kn.le_anti (h.norm at_ s ha e j hj) (k.norm at_ t ha ht j hj) (hst j hj) (htu j hj)⟩
def joinV(o:Option KS)(t:KS):KS:=match o with
 | none=>t
 | some s=>fun j=>Kn.join (s j) (t j)
def putV(l:KV)(n:Nat)(s:KS):KV:=fun x=>if x=n then some s else l x
def SameV(s:KS)(o:Option KS):Prop:=∃t,o=some t/\∀j,j < 8->s j=t j

theorem J1t(l:KV)(n:Nat)(s:KS):putV l n s n=some s:=by simp[putV]
theorem J1v(l:KV){n x:Nat}(h:x≠n)(s:KS):putV l n s x=l x:=by simp[putV,h]

structure OnWay(p:Prg)(l:KV):Prop where
 first:∃s,l 0=some s/\leS zeroK s
 norm:NormV p l
 low:∀l',Jf9 p l'->Jmm p l l'

theorem Jb5{o:Option KS}{s t:KS}(h:o=some s):leS s (joinV o t):=by subst h;exact fun j _=>Kn.join_l _ _
theorem Jir{o:Option KS}{t:KS}:leS t (joinV o t):=by
 cases o with
 | none=>exact Jb8 t
 | some s=>exact fun j _=>Kn.join_r _ _

theorem OnWay.start{p:Prg}(h:0 < p.cl):OnWay p (putV (fun _=>none) 0 zeroK) where
 first:=⟨zeroK,J1t _ _ _,Jb8 _⟩
 norm:=fun at_ s ha e=>by
  by_cases h0:at_=0
  ·subst h0;rw[J1t]at e;cases e
   exact fun j _=>by unfold zeroK Kn.Norm;dsimp only;omega
  ·rw[J1v _ h0]at e;cases e
 low:=fun l' hc at_ s ha e=>by
  by_cases h0:at_=0
  ·subst h0;rw[J1t]at e;cases e
   exact hc.first
  ·rw[J1v _ h0]at e;cases e

structure Just(p:Prg)(x:Nat × KS):Prop where
 norm:NormS x.2
 low:∀l',Jf9 p l'->x.1 < p.cl->∃u,l' x.1=some u/\leS x.2 u
theorem OnWay.just{p:Prg}(hp:p.Ok 200 8){l:KV}(h:OnWay p l){at_:Nat}{s:KS}(ha:at_ < p.cl)(e:l at_=some s){x:Nat × KS}(hx:x ∈ J1w p at_ s):Just p x:=by
 have hi:=hp.2.2.2 at_ ha;refine⟨Jh4 hi (h.norm at_ s ha e) hx,fun l' hc hn=>?_⟩;obtain⟨u,eu,hsu⟩:=h.low l' hc at_ s ha e;obtain⟨y,hy,hxy⟩:=Jh3 hi hsu hx;obtain⟨v,ev,hyv⟩:=hc.leads at_ u ha eu _ hy hn;exact⟨v,ev,J8i hxy hyv⟩
theorem OnWay.joinJ{p:Prg}{l:KV}(h:OnWay p l){x:Nat × KS}(hx:Just p x)(hn:x.1 < p.cl):OnWay p (putV l x.1 (joinV (l x.1) x.2)):=by
 refine⟨?_,?_,?_⟩
 ·obtain⟨s0,e0,l0⟩:=h.first
  by_cases h0:0=x.1
  ·refine⟨joinV (l x.1) x.2,by rw[<-h0];exact J1t _ _ _,?_⟩
   rw[<-h0,e0];exact J8i l0 (Jb5 rfl)
  ·exact⟨s0,by rw[J1v _ h0];exact e0,l0⟩
 ·intro a t hat et
  by_cases h0:a=x.1
  ·subst h0
   rw[J1t]at et;cases et;cases eo:l x.1 with
   | none=>exact hx.norm
   | some s1=>exact fun j _=>Kn.norm_join _ _
  ·rw[J1v _ h0]at et;exact h.norm a t hat et
 ·intro l' hc a t hat et
  by_cases h0:a=x.1
  ·subst h0
   rw[J1t]at et;cases et;obtain⟨v,ev,hxv⟩:=hx.low l' hc hn;refine⟨v,ev,?_⟩;cases eo:l x.1 with
   | none=>exact hxv
   | some s1=>
    obtain⟨v',ev',h1⟩:=h.low l' hc x.1 s1 hn eo;rw[ev]at ev';cases ev';exact fun j hj=>Kn.join_le (h1 j hj) (hxv j hj)
  ·rw[J1v _ h0]at et;exact h.low l' hc a t hat et
theorem Jch{o:Option KS}{t:KS}(h:SameV (joinV o t) o):∃u,o=some u/\leS t u:=by
 obtain⟨u,e,hj⟩:=h;refine⟨u,e,fun j hj'=>?_⟩;rw[<-hj j hj'];exact Jir j hj'

theorem OnWay.known{p:Prg}{l:KV}(h:OnWay p l)(hh:∀at_ s,at_ < p.cl->l at_=some s->∀x ∈ J1w p at_ s,x.1 < p.cl->∃u,l x.1=some u/\leS x.2 u):Known p l:=
 ⟨⟨h.first,hh⟩,h.norm,h.low⟩

def rankK(k:Kn):Nat:=k.b.toNat+if k.s then 1 else 0
def rankS(s:KS):Nat->Nat
 | 0=>1
 | n+1=>rankS s n+rankK (s n)
def rankO(o:Option KS):Nat:=match o with
 | none=>0
 | some s=>rankS s 8
def rankV(l:KV):Nat->Nat
 | 0=>0
 | n+1=>rankV l n+rankO (l n)

theorem Jlu{k:Kn}(h:k.Norm):rankK k<=18:=by unfold rankK;have:=h.2;split<;>omega
theorem Jg7{s:KS}:∀n,(∀j,j < n->(s j).Norm)->rankS s n<=1+18*n
 | 0,_=>by simp[rankS]
 | n+1,h=>by
  have h1:=Jg7 n (fun j hj=>h j (by omega));have h2:=Jlu (h n (by omega));rw[rankS];omega
theorem Jlv{o:Option KS}(h:∀s,o=some s->NormS s):rankO o<=145:=by
 cases o with
 | none=>simp[rankO]
 | some s=>exact Jg7 8 (h s rfl)
theorem Jbj{p:Prg}{l:KV}(h:NormV p l):∀n,n<=p.cl->rankV l n<=145*n
 | 0,_=>by simp[rankV]
 | n+1,hn=>by
  have h1:=Jbj h n (by omega);have h2:=Jlv (o:=l n) (fun s e=>h n s (by omega) e);rw[rankV];omega

theorem Jhi{x y:Kn}(hx:x.Norm)(hy:y.Norm)(h:Kn.le x y):rankK x<=rankK y/\(rankK y<=rankK x->x=y):=by
 have e1:=Kn.bnd_norm hx;have e2:=Kn.bnd_norm hy;have hb:x.b<=y.b:=by have:=h.1;omega
 have hs:=h.2;unfold rankK;cases hxs:x.s<;>cases hys:y.s
 ·refine⟨by simp;omega,fun q=>Kn.le_anti hx hy h ⟨?_,by simp[hys]⟩⟩
  simp at q;have:=hx.1;have:=hy.1;omega
 ·refine⟨by simp;omega,fun q=>?_⟩
  simp at q;have:=hx.1;have:=hy.1;omega
 ·simp[hxs,hys]at hs
 ·refine⟨by simp;omega,fun q=>Kn.le_anti hx hy h ⟨?_,by simp[hxs]⟩⟩
  simp at q;have:=hx.1;have:=hy.1;omega
theorem Ja6{s t:KS}:∀n,n<=8->NormS s->NormS t->leS s t->rankS s n<=rankS t n/\(rankS t n<=rankS s n->∀j,j < n->s j=t j)
 | 0,_,_,_,_=>⟨Nat.le_refl _,fun _ j hj=>by omega⟩
 | n+1,hn,hs,ht,h=>by
  have h1:=Ja6 n (by omega) hs ht h;have h2:=Jhi (hs n (by omega)) (ht n (by omega)) (h n (by omega));rw[rankS,rankS];refine⟨by omega,fun q j hj=>?_⟩;by_cases e:j=n
  ·subst e;exact h2.2 (by omega)
  ·exact h1.2 (by omega) j (by omega)
theorem J8t(s:KS):∀n,1<=rankS s n
 | 0=>Nat.le_refl _
 | n+1=>by have:=J8t s n;rw[rankS];omega

theorem Jlw{o:Option KS}{t:KS}(hn:∀s,o=some s->NormS s)(ht:NormS t)(h:¬SameV (joinV o t) o):rankO o < rankS (joinV o t) 8:=by
 cases o with
 | none=>exact J8t _ 8
 | some s=>
  have hs:=hn s rfl;have hj:NormS (joinV (some s) t):=fun j _=>Kn.norm_join _ _
  have hm:=Ja6 8 (Nat.le_refl _) hs hj (Jb5 rfl);rcases Nat.lt_or_ge (rankS s 8) (rankS (joinV (some s) t) 8) with q | q
  ·exact q
  ·exact absurd ⟨s,rfl,fun j hj'=>(hm.2 q j hj').symm⟩ h

theorem J81(l:KV):∀m n,n < m->rankO (l n)<=rankV l m
 | 0,_,h=>absurd h (Nat.not_lt_zero _)
 | m+1,n,h=>by
  rw[rankV];by_cases e:n=m
  ·subst e;omega
  ·have:=J81 l m n (by omega);omega
theorem J8u(l:KV)(n:Nat)(s:KS):∀m,rankV (putV l n s) m=if n < m then rankV l m+rankS s 8 - rankO (l n) else rankV l m
 | 0=>by simp[rankV]
 | m+1=>by
  rw[rankV,J8u l n s m,rankV];by_cases e:m=n
  ·subst e
   rw[if_neg (by omega),if_pos (by omega),J1t];show rankV l m+rankS s 8=_;omega
  ·rw[J1v _ e]
   by_cases h:n < m
   ·rw[if_pos h,if_pos (by omega)]
    have:rankO (l n)<=rankV l m:=J81 l m n h;omega
   ·rw[if_neg h,if_neg (by omega)]

theorem Jo4{p:Prg}{l:KV}(hl:NormV p l){n:Nat}(hn:n < p.cl){t:KS}(ht:NormS t)(h:¬SameV (joinV (l n) t) (l n)):rankV l p.cl < rankV (putV l n (joinV (l n) t)) p.cl:=by
 rw[J8u,if_pos hn];have h1:=Jlw (o:=l n) (fun s e=>hl n s hn e) ht h;have h2:=J81 l p.cl n hn;omega

def J1j(p:Prg)(i:Ins)(s:KS):Bool:=
 if i.op=3 then(s i.b.toNat).s
 else if i.op=4 then(s i.b.toNat).s||((s i.a.toNat).s && !p.sec i.c.toNat)
 else if i.op=6 then(s i.a.toNat).s && !p.sec i.c.toNat
 else if i.op=8 then(s i.a.toNat).s||(s i.b.toNat).s
 else if i.op=29\/i.op=30 then(s i.b.toNat).s||(s i.c.toNat).s
 else if i.op=9 then(s i.a.toNat).s
 else false
def J5d(p:Prg)(i:Ins)(s:KS):Bool:=(decide (i.op=3)||decide (i.op=4))&&(decide (i.n < 0)||decide (p.log i.c.toNat < (Kn.index (s i.b.toNat) i.n).b))
def outK(p:Prg)(at_:Nat):Bool := !(decide ((p.ins at_).op=7))&&(!(decide ((p.ins at_).op=9))&&decide (p.cl<=at_+1))
def J36(p:Prg)(at_:Nat)(s:KS):Int:=if outK p at_||J5d p (p.ins at_) s then 4 else if J1j p (p.ins at_) s then 5 else 0
def scanK(p:Prg)(l:KV):Nat->Nat->Int × Int
 | 0,_=>(0,0)
 | n+1,at_=>match l at_ with
  | none=>scanK p l n (at_+1)
  | some s=>if J36 p at_ s=0 then scanK p l n (at_+1) else(J36 p at_ s,at_)
def J1h(p:Prg)(l:KV):Int × Int:=scanK p l p.cl 0

theorem Jdv{p:Prg}(hp:p.Ok 200 8){at_:Nat}(ha:at_ < p.cl){s t:KS}(h:∀j,j < 8->s j=t j):J36 p at_ s=J36 p at_ t:=by
 have hi:=hp.2.2.2 at_ ha;have hr:=J5w hi;unfold J36 J5d J1j;generalize p.ins at_=i at *;by_cases h3:i.op=3
 ·rw[h _ (hr.2.1 (by omega))];simp[h3]
 by_cases h4:i.op=4
 ·rw[h _ (hr.2.1 (by omega)),h _ (hr.1 (by omega))];simp[h4]
 by_cases h6:i.op=6
 ·rw[h _ (hr.1 (by omega))];simp[h6]
 by_cases h8:i.op=8
 ·rw[h _ (hr.1 (by omega)),h _ (hr.2.1 (by omega))];simp[h8]
 by_cases h29:i.op=29\/i.op=30
 ·rw[h _ (hr.2.1 (by omega)),h _ (hr.2.2.1 (by omega))];simp[h3,h4,h6,h8,h29]
 by_cases h9:i.op=9
 ·rw[h _ (hr.1 (by omega))];simp[h9]
 ·simp[h3,h4,h6,h8,h29,h9]

theorem J71{p:Prg}(hp:p.Ok 200 8){l l':KV}(h:∀at_,at_ < p.cl->(l at_=none/\l' at_=none)\/∃s t,l at_=some s/\l' at_=some t/\∀j,j < 8->s j=t j):
  ∀n at_,at_+n=p.cl->scanK p l n at_=scanK p l' n at_
 | 0,at_,_=>rfl
 | n+1,at_,e=>by
  rcases h at_ (by omega) with⟨h1,h2⟩ | ⟨s,t,h1,h2,hst⟩
  ·simp only[scanK,h1,h2]
   exact J71 hp h n (at_+1) (by omega)
  ·simp only[scanK,h1,h2]
   rw[Jdv hp (by omega) hst,J71 hp h n (at_+1) (by omega)]

theorem Ji5{p:Prg}(hp:p.Ok 200 8){l l':KV}(h:Known p l)(k:Known p l'):J1h p l=J1h p l':=
 J71 hp (fun _ ha=>h.one k ha) p.cl 0 (by omega)
def ComeK(p:Prg)(l:KV)(td:List Nat)(x:Nat × KS)(l':KV)(td':List Nat):Prop:=
 (¬x.1 < p.cl/\l'=l/\td'=td)\/(x.1 < p.cl/\SameV (joinV (l x.1) x.2) (l x.1)/\l'=l/\td'=td)\/(x.1 < p.cl/\¬SameV (joinV (l x.1) x.2) (l x.1)/\l'=putV l x.1 (joinV (l x.1) x.2)/\td'=td++[x.1])

structure Todo(p:Prg)(l:KV)(td:List Nat)(a:Nat)(R:List (Nat × KS)):Prop where
 on:OnWay p l
 just:∀x ∈ R,Just p x
 left:∀k s,k < p.cl->l k=some s->k ∈ td\/∀x ∈ J1w p k s,x.1 < p.cl->(∃u,l x.1=some u/\leS x.2 u)\/(k=a/\x ∈ R)
 come:∀k ∈ td,k < p.cl/\∃s,l k=some s
 short:td.length<=rankV l p.cl

theorem Jjh{l:KV}{n:Nat}{t:KS}{k:Nat}{u:KS}(e:l k=some u):∃u',putV l n (joinV (l n) t) k=some u'/\leS u u':=by
 by_cases h:k=n
 ·subst h
  exact⟨_,J1t _ _ _,Jb5 e⟩
 ·exact⟨u,by rw[J1v _ h];exact e,Jb8 _⟩

theorem Todo.next{p:Prg}{l l':KV}{td td':List Nat}{a:Nat}{x:Nat × KS}{R:List (Nat × KS)}(h:Todo p l td a (x::R))(c:ComeK p l td x l' td'):
  Todo p l' td' a R/\rankV l p.cl<=rankV l' p.cl/\td'.length+rankV l p.cl<=td.length+rankV l' p.cl/\∀k,(∃s,l k=some s)->∃s,l' k=some s:=by
 have hj:=h.just x List.mem_cons_self;have hj':∀y ∈ R,Just p y:=fun y hy=>h.just y (List.mem_cons_of_mem _ hy)
 rcases c with⟨hn,rfl,rfl⟩ | ⟨hn,hs,rfl,rfl⟩ | ⟨hn,hs,rfl,rfl⟩
 ·refine⟨⟨h.on,hj',fun k s hk e=>?_,h.come,h.short⟩,Nat.le_refl _,Nat.le_refl _,fun _ q=>q⟩
  rcases h.left k s hk e with q | q
  ·exact .inl q
  ·refine .inr (fun y hy hy1=>?_)
   rcases q y hy hy1 with q | ⟨q1,q2⟩
   ·exact .inl q
   ·rcases List.mem_cons.1 q2 with rfl | q2
    ·exact absurd hy1 hn
    ·exact .inr ⟨q1,q2⟩
 ·refine⟨⟨h.on,hj',fun k s hk e=>?_,h.come,h.short⟩,Nat.le_refl _,Nat.le_refl _,fun _ q=>q⟩
  rcases h.left k s hk e with q | q
  ·exact .inl q
  ·refine .inr (fun y hy hy1=>?_)
   rcases q y hy hy1 with q | ⟨q1,q2⟩
   ·exact .inl q
   ·rcases List.mem_cons.1 q2 with rfl | q2
    ·exact .inl (Jch hs)
    ·exact .inr ⟨q1,q2⟩
 ·have hr:=Jo4 h.on.norm hn hj.norm hs
  refine⟨⟨h.on.joinJ hj hn,hj',fun k s hk e=>?_,fun k hk=>?_,?_⟩,Nat.le_of_lt hr,?_,fun k ⟨s,e⟩=>?_⟩
  ·by_cases hk0:k=x.1
   ·exact .inl (by rw[hk0];simp)
   ·rw[J1v _ hk0]at e
    rcases h.left k s hk e with q | q
    ·exact .inl (List.mem_append_left _ q)
    ·refine .inr (fun y hy hy1=>?_)
     rcases q y hy hy1 with⟨u,q1,q2⟩ | ⟨q1,q2⟩
     ·obtain⟨u',h1,h2⟩:=Jjh (n:=x.1) (t:=x.2) q1
      exact .inl ⟨u',h1,J8i q2 h2⟩
     ·rcases List.mem_cons.1 q2 with rfl | q2
      ·exact .inl ⟨_,J1t _ _ _,Jir⟩
      ·exact .inr ⟨q1,q2⟩
  ·rcases List.mem_append.1 hk with q | q
   ·obtain⟨h1,s,e⟩:=h.come k q
    obtain⟨u,e',_⟩:=Jjh (n:=x.1) (t:=x.2) e;exact⟨h1,u,e'⟩
   ·obtain rfl:k=x.1:=by simpa using q
    exact⟨hn,_,J1t _ _ _⟩
  ·have:=h.short
   rw[List.length_append];simp;omega
  ·rw[List.length_append];simp;omega
  ·obtain⟨u,e',_⟩:=Jjh (n:=x.1) (t:=x.2) e
   exact⟨u,e'⟩

theorem Todo.start{p:Prg}(hp:0 < p.cl){l':KV}{td':List Nat}(c:ComeK p (fun _=>none) [] (0,zeroK) l' td'):Todo p l' td' 0 []:=by
 rcases c with⟨hn,_⟩ | ⟨hn,hs,_⟩ | ⟨hn,hs,rfl,rfl⟩
 ·exact absurd hp hn
 ·obtain⟨t,e,_⟩:=hs
  cases e
 ·refine⟨OnWay.start hp,fun x hx=>absurd hx (by simp),fun k s hk e=>?_,fun k hk=>?_,?_⟩
  ·by_cases h0:k=0
   ·exact .inl (by rw[h0];simp)
   ·rw[J1v _ h0]at e;cases e
  ·obtain rfl:k=0:=by simpa using hk
   exact⟨hp,_,J1t _ _ _⟩
  ·rw[J8u,if_pos hp]
   have h1:=J8t (joinV none zeroK) 8;have h2:=J81 (fun _=>(none:Option KS)) p.cl 0 hp;show 1<=_;dsimp only[rankO]at *;omega

theorem Todo.pop{p:Prg}(hp:p.Ok 200 8){l:KV}{td:List Nat}{a b:Nat}(h:Todo p l (td++[a]) b []){s:KS}(e:l a=some s):Todo p l td a (J1w p a s):=by
 have ha:=(h.come a (by simp)).1;refine⟨h.on,fun x hx=>h.on.just hp ha e hx,fun k t hk ek=>?_,fun k hk=>h.come k (List.mem_append_left _ hk),?_⟩
 ·rcases h.left k t hk ek with q | q
  ·rcases List.mem_append.1 q with q | q
   ·exact .inl q
   ·obtain rfl:k=a:=by simpa using q
    rw[e]at ek;cases ek;exact .inr (fun x hx _=>.inr ⟨rfl,hx⟩)
  ·refine .inr (fun x hx hx1=>?_)
   rcases q x hx hx1 with q | ⟨_,q⟩
   ·exact .inl q
   ·exact absurd q (by simp)
 ·have:=h.short
  rw[List.length_append]at this;simp at this;omega

theorem Todo.known{p:Prg}{l:KV}{a:Nat}(h:Todo p l [] a []):Known p l:=
 h.on.known (fun k s hk e x hx hx1=>by
  rcases h.left k s hk e with q | q
  ·exact absurd q (by simp)
  ·rcases q x hx hx1 with q | ⟨_,q⟩
   ·exact q
   ·exact absurd q (by simp))

theorem Jkz(k:Kn)(n:Int)(h0:-9223372036854775808<=n):Kn.index k n=Kn.op 1 k (Kn.of n):=by
 unfold Kn.index
 split
 ·rename_i h
  have hf:fitI n=17:=by
   have h1:=Joe h h0;have h2:¬bitLen (toU n)<=16:=fun q=>by have:=(Ji3 _ _).1 q;omega
   exact Jai (.inr (by omega))
  have hr:=J12 k.b;unfold Kn.op Kn.of;dsimp only;rw[hf,J4g (k:=17) (by omega) (by omega),Bool.or_false]
  have:opB 1 (bnd k.b) 17=17:=by
   unfold opB;rw[if_pos rfl]
   split
   ·omega
   ·exact Jai (.inr (by omega))
  rw[this]
 ·rfl
end
section
open Go.RowKit
theorem bl_eq:∀n x:Nat,x<=n->x < 18446744073709551616->Lib.bitLen x=Go.bitLen x
  | 0,x,h,_=>by
    obtain rfl:x=0:=by omega
    simp[Lib.bitLen,Lib.bitLenAux,Go.bitLen]
  | n+1,x,h,hx=>by
    by_cases h0:x=0
    · subst h0;simp[Lib.bitLen,Lib.bitLenAux,Go.bitLen]
    · rw[Lib.bitLen_half x h0 hx,bl_eq n (x / 2) (by omega) (by omega)]
      by_cases h1:x / 2=0
      · obtain rfl:x=1:=by omega
        decide +kernel
      · have:=Go.bitLen_shift x 1 (by simpa using h1)
        rw[Nat.pow_one]at this;exact this.symm

theorem J50(i:Nat)(h:i < Lib.len8tab.size):(Lib.len8tab[i]).toNat=Lib.bitLen i:=by
  have e:=Lib.len8_eq ⟨i,by rw[Lib.len8tab_size]at h;exact h⟩;simp only[Lib.len8,Int.toNat_natCast,ByteArray.getElem?_lt' _ _ h,Option.getD_some]at e
  exact_mod_cast e

theorem J61{x q:Int}(k:Nat)(v:Nat)(hv:v=Lib.bitLen q.toNat)(h0:0<=x)(h1:x<=18446744073709551615)(q0:0<=q)(q1:q < 256)(hq:q.toNat=x.toNat / 2 ^ k)(hk:k<=56)(hp:q≠0):
    wrap64 ((k:Int)+wrap64 (v:Int))=(Lib.bitLen x.toNat:Int):=by
  have l:=Lib.bitLen_le8' q q0 (by omega)
  have s:=Lib.bitLen_shift k x.toNat (by
    have h2:x.toNat / 2 ^ k≠0:=by omega
    rcases Nat.lt_or_ge x.toNat (2 ^ k) with h | h
    · exact absurd (Nat.div_eq_of_lt h) h2
    · exact h) (by
      have e:(2:Nat) ^ 64=18446744073709551616:=by decide +kernel
      rw[e];omega)
  rw[s,<-hq,<-hv];rw[<-hv]at l;clear s hv hq hp q1 q0 h0 h1;unfold wrap64;omega

set_option maxRecDepth 100000 in
theorem Jee(x:Int)(w:World)(h0:0<=x)(h1:x<=18446744073709551615):
    Calls Tryz.prog 164 #[.int .u64 x] w fun e w'=>e=.returned (V (Lib.bitLen x.toNat))/\w'=w:=by
  have hsz:=Lib.len8tab_size;go_enter Tryz.func164,Tryz.ntmps164;go_wp2
  all_goals (go_ret;refine⟨congrArg Ending.returned (congrArg (Value.int IntKind.i64) ?_),rfl⟩)
  all_goals first
    | (exact J61 (x:=x) (q:=x / 4294967296 / 65536 / 256) 56 _ (J50 _ _) (by omega) (by omega) (by omega) (by omega) (by rw[show(2 ^ 56:Nat)=72057594037927936 by decide +kernel];omega) (by omega) (by omega))
    | (exact J61 (x:=x) (q:=x / 4294967296 / 65536) 48 _ (J50 _ _) (by omega) (by omega) (by omega) (by omega) (by rw[show(2 ^ 48:Nat)=281474976710656 by decide +kernel];omega) (by omega) (by omega))
    | (exact J61 (x:=x) (q:=x / 4294967296 / 256) 40 _ (J50 _ _) (by omega) (by omega) (by omega) (by omega) (by rw[show(2 ^ 40:Nat)=1099511627776 by decide +kernel];omega) (by omega) (by omega))
    | (exact J61 (x:=x) (q:=x / 4294967296) 32 _ (J50 _ _) (by omega) (by omega) (by omega) (by omega) (by rw[show(2 ^ 32:Nat)=4294967296 by decide +kernel];omega) (by omega) (by omega))
    | (exact J61 (x:=x) (q:=x / 65536 / 256) 24 _ (J50 _ _) (by omega) (by omega) (by omega) (by omega) (by rw[show(2 ^ 24:Nat)=16777216 by decide +kernel];omega) (by omega) (by omega))
    | (exact J61 (x:=x) (q:=x / 65536) 16 _ (J50 _ _) (by omega) (by omega) (by omega) (by omega) (by rw[show(2 ^ 16:Nat)=65536 by decide +kernel];omega) (by omega) (by omega))
    | (exact J61 (x:=x) (q:=x / 256) 8 _ (J50 _ _) (by omega) (by omega) (by omega) (by omega) (by rw[show(2 ^ 8:Nat)=256 by decide +kernel];omega) (by omega) (by omega))
    | (rw[J50]
       have l:=Lib.bitLen_le8' x h0 (by omega);unfold wrap64;omega)

theorem J0j(k:Int)(w:World):
    Calls Tryz.prog 151 #[V k] w fun e w'=>e=.returned (V (bnd k))/\w'=w:=by
  by_cases h:k < 0
  · rw[Jai (.inl h)]
    go_enter Tryz.func151,Tryz.ntmps151;go_wp2;go_ret;exact⟨rfl,rfl⟩
  by_cases h2:16 < k
  · rw[Jai (.inr h2)]
    go_enter Tryz.func151,Tryz.ntmps151;go_wp2;go_ret;exact⟨rfl,rfl⟩
  · rw[Joq (by omega) (by omega)]
    go_enter Tryz.func151,Tryz.ntmps151;go_wp2;go_ret;exact⟨rfl,rfl⟩

theorem Jay(n:Int)(w:World):
    Calls Tryz.prog 152 #[V n] w fun e w'=>e=.returned (V (fitI n))/\w'=w:=by
  obtain⟨l,hl⟩:∃l:Int,((Lib.bitLen (toU n):Nat):Int)=l:=⟨_,rfl⟩;have hf:fitI n=bnd l:=by unfold fitI;rw[<-hl,bl_eq _ _ (Nat.le_refl _) (J6o n)]
  have c:∀w:World,Calls Tryz.prog 164 #[.int .u64 (IntKind.u64.wrap n)] w fun e w'=>e=.returned (V l)/\w'=w:=by
    intro w;have:=Jee (IntKind.u64.wrap n) w (by rw[uwrap];omega) (by rw[uwrap];have:=J6o n;omega);rw[uwrap,Int.toNat_natCast,hl]at this;rw[uwrap];exact this
  rw[hf];clear hf hl;obtain⟨b,hb⟩:∃b,bnd l=b:=⟨_,rfl⟩;have c2:∀w:World,Calls Tryz.prog 151 #[V l] w fun e w'=>e=.returned (V b)/\w'=w:=fun w=>hb▸J0j l w
  rw[hb];clear hb;go_enter Tryz.func152,Tryz.ntmps152;go_wp2_with (fail)
  refine(c _).mono ?_;rintro e w1 ⟨rfl,rfl⟩;go_wp2_with (fail)
  refine(c2 _).mono ?_;rintro e w1 ⟨rfl,rfl⟩;go_wp2;go_ret;exact⟨rfl,rfl⟩
abbrev kn(a:Int)(s:Bool):Value:=.agg #[V a,.bool s]

structure Two(n:Nat)(a:Int)(sa:Bool)(b:Int)(sb:Bool)(w:World):Prop where
 a0:w.cell? ⟨n,0,none⟩=some (V a)
 a1:w.cell? ⟨n,1,none⟩=some (.bool sa)
 b0:w.cell? ⟨n+1,0,none⟩=some (V b)
 b1:w.cell? ⟨n+1,1,none⟩=some (.bool sb)

theorem J6x(a b:Int)(sa sb:Bool)(w:World):
  Calls Tryz.prog 129 #[kn a sa,kn b sb] w fun e w'=>e=.returned (kn (min (bnd a) (bnd b)) sa)/\More w w':=by
 obtain⟨x,hx⟩:∃x,bnd a=x:=⟨_,rfl⟩;obtain⟨y,hy⟩:∃x,bnd b=x:=⟨_,rfl⟩;have c1:∀w:World,Calls Tryz.prog 151 #[V a] w fun e w'=>e=.returned (V x)/\w'=w:=fun w=>hx▸J0j a w
 have c2:∀w:World,Calls Tryz.prog 151 #[V b] w fun e w'=>e=.returned (V y)/\w'=w:=fun w=>hy▸J0j b w
 rw[hx,hy];clear hx hy;unfold kn;obtain⟨S,HS⟩:∃S:World->Prop,Hid (∀w',S w'↔Two w.heap.size a sa b sb w'):=⟨_,fun _=>Iff.rfl⟩;have k0:∀i:{ w' // S w' },i.val.cell? ⟨w.heap.size,0,none⟩=some (V a):=fun i=>((HS.out _).1 i.property).a0
 have k1:∀i:{ w' // S w' },i.val.cell? ⟨w.heap.size,1,none⟩=some (.bool sa):=fun i=>((HS.out _).1 i.property).a1
 have k2:∀i:{ w' // S w' },i.val.cell? ⟨w.heap.size+1,0,none⟩=some (V b):=fun i=>((HS.out _).1 i.property).b0
 have k3:∀i:{ w' // S w' },i.val.cell? ⟨w.heap.size+1,1,none⟩=some (.bool sb):=fun i=>((HS.out _).1 i.property).b1
 obtain⟨W,HW⟩:∃W:World,Hid (W=((w.alloc (.cells #[V a,.bool sa] 137)).alloc (.cells #[V b,.bool sb] 137)).alloc (.cells #[V 0,.bool false] 137)):=⟨_,rfl⟩;have HS0:S W.drew:=(HS.out _).2 (by rw[HW.out];constructor<;>go_simp);have hne:Nonempty { w' // S w' }:=⟨⟨_,HS0⟩⟩;go_enter Tryz.func129,Tryz.ntmps129;go_wp2_with (fail)
 rw[<-HW.out];refine J04 (S:=S) [(0,true),(1,true),(3,true),(4,true),(7,true),(8,true),(2,false),(5,false),(6,false),(9,true),(10,false)] (by kernel_rfl) (by kernel_rfl) (by kernel_rfl) HS0 ?_
 iterate 6 (refine J00 rfl (by kernel_rfl) (fun K hK=>?_);go_simp;refine hK _ _ ?_;clear hK K)
 refine J03 rfl (by kernel_rfl) (fun K hK=>?_);go_simp;refine(c1 _).mono ?_;rintro e w1 ⟨rfl,rfl⟩
 go_simp
 refine hK _ _ HS0 ?_;clear hK K;refine J03 rfl (by kernel_rfl) (fun K hK=>?_);go_simp;refine(c2 _).mono ?_;rintro e w1 ⟨rfl,rfl⟩
 go_simp
 refine hK _ _ HS0 ?_;clear hK K;refine J03 rfl (by kernel_rfl) (fun K hK=>?_);go_simp;refine hK _ _ HS0 ?_;clear hK K
 (refine J00 rfl (by kernel_rfl) (fun K hK=>?_);go_simp;refine hK _ _ ?_;clear hK K)
 rw[HW.out];refine J03 rfl (by kernel_rfl) (fun K hK=>?_);go_simp;refine hK _ _ ((HS.out _).2 (by constructor<;>go_simp)) ?_;clear hK K;refine J06 ?_;clear k0 k1 k2 k3 hne HS0;go_wp2;exact bodyPost_ret (by simp[results,Tryz.results129,go_sem]) rfl ⟨rfl,((((More.refl _).alloc _ _).alloc _ _).alloc _ _).drew⟩

theorem Jis(a b:Int)(sb:Bool)(w:World):
  Calls Tryz.prog 128 #[kn a true,kn b sb] w fun e w'=>e=.returned (kn (max (bnd a) (bnd b)) true)/\More w w':=by
 obtain⟨x,hx⟩:∃x,bnd a=x:=⟨_,rfl⟩;obtain⟨y,hy⟩:∃x,bnd b=x:=⟨_,rfl⟩;have c1:∀w:World,Calls Tryz.prog 151 #[V a] w fun e w'=>e=.returned (V x)/\w'=w:=fun w=>hx▸J0j a w
 have c2:∀w:World,Calls Tryz.prog 151 #[V b] w fun e w'=>e=.returned (V y)/\w'=w:=fun w=>hy▸J0j b w
 rw[hx,hy];clear hx hy;unfold kn;obtain⟨S,HS⟩:∃S:World->Prop,Hid (∀w',S w'↔Two w.heap.size a true b sb w'):=⟨_,fun _=>Iff.rfl⟩;have k0:∀i:{ w' // S w' },i.val.cell? ⟨w.heap.size,0,none⟩=some (V a):=fun i=>((HS.out _).1 i.property).a0
 have k1:∀i:{ w' // S w' },i.val.cell? ⟨w.heap.size,1,none⟩=some (.bool true):=fun i=>((HS.out _).1 i.property).a1
 have k2:∀i:{ w' // S w' },i.val.cell? ⟨w.heap.size+1,0,none⟩=some (V b):=fun i=>((HS.out _).1 i.property).b0
 have k3:∀i:{ w' // S w' },i.val.cell? ⟨w.heap.size+1,1,none⟩=some (.bool sb):=fun i=>((HS.out _).1 i.property).b1
 obtain⟨W,HW⟩:∃W:World,Hid (W=((w.alloc (.cells #[V a,.bool true] 137)).alloc (.cells #[V b,.bool sb] 137)).alloc (.cells #[V 0,.bool false] 137)):=⟨_,rfl⟩;have HS0:S W.drew:=(HS.out _).2 (by rw[HW.out];constructor<;>go_simp);have hne:Nonempty { w' // S w' }:=⟨⟨_,HS0⟩⟩;go_enter Tryz.func128,Tryz.ntmps128;go_wp2_with (fail)
 rw[<-HW.out];refine J04 (S:=S) [(0,true),(1,true),(3,true),(4,true),(7,true),(8,true),(2,false),(5,false),(9,true),(10,true),(11,true),(12,true),(6,false),(13,true),(14,false)] (by kernel_rfl) (by kernel_rfl) (by kernel_rfl) HS0 ?_
 iterate 6 (refine J00 rfl (by kernel_rfl) (fun K hK=>?_);go_simp;refine hK _ _ ?_;clear hK K)
 refine J03 rfl (by kernel_rfl) (fun K hK=>?_);go_simp;refine(c1 _).mono ?_;rintro e w1 ⟨rfl,rfl⟩
 go_simp
 refine hK _ _ HS0 ?_;clear hK K;refine J03 rfl (by kernel_rfl) (fun K hK=>?_);go_simp;refine(c2 _).mono ?_;rintro e w1 ⟨rfl,rfl⟩
 go_simp
 refine hK _ _ HS0 ?_;clear hK K
 (refine J00 rfl (by kernel_rfl) (fun K hK=>?_);go_simp;refine hK _ _ ?_;clear hK K)
 iterate 2 (refine J2b rfl HS0 (by kernel_rfl) (by kernel_rfl) ?_)
 refine J1p rfl rfl (by kernel_rfl) rfl (fun K hK=>?_);go_simp;refine hK _ _ ?_;clear hK K;refine J03 rfl (by kernel_rfl) (fun K hK=>?_);go_simp;refine hK _ _ HS0 ?_;clear hK K
 (refine J00 rfl (by kernel_rfl) (fun K hK=>?_);go_simp;refine hK _ _ ?_;clear hK K)
 rw[HW.out];refine J03 rfl (by kernel_rfl) (fun K hK=>?_);go_simp;refine hK _ _ ((HS.out _).2 (by constructor<;>go_simp)) ?_;clear hK K;refine J06 ?_;clear k0 k1 k2 k3 hne HS0;go_wp2;exact bodyPost_ret (by simp[results,Tryz.results128,go_sem]) rfl ⟨rfl,((((More.refl _).alloc _ _).alloc _ _).alloc _ _).drew⟩

theorem Jgx(a b:Int)(sb:Bool)(w:World):
  Calls Tryz.prog 128 #[kn a false,kn b sb] w fun e w'=>e=.returned (kn (max (bnd a) (bnd b)) sb)/\More w w':=by
 obtain⟨x,hx⟩:∃x,bnd a=x:=⟨_,rfl⟩;obtain⟨y,hy⟩:∃x,bnd b=x:=⟨_,rfl⟩;have c1:∀w:World,Calls Tryz.prog 151 #[V a] w fun e w'=>e=.returned (V x)/\w'=w:=fun w=>hx▸J0j a w
 have c2:∀w:World,Calls Tryz.prog 151 #[V b] w fun e w'=>e=.returned (V y)/\w'=w:=fun w=>hy▸J0j b w
 rw[hx,hy];clear hx hy;unfold kn;obtain⟨S,HS⟩:∃S:World->Prop,Hid (∀w',S w'↔Two w.heap.size a false b sb w'):=⟨_,fun _=>Iff.rfl⟩;have k0:∀i:{ w' // S w' },i.val.cell? ⟨w.heap.size,0,none⟩=some (V a):=fun i=>((HS.out _).1 i.property).a0
 have k1:∀i:{ w' // S w' },i.val.cell? ⟨w.heap.size,1,none⟩=some (.bool false):=fun i=>((HS.out _).1 i.property).a1
 have k2:∀i:{ w' // S w' },i.val.cell? ⟨w.heap.size+1,0,none⟩=some (V b):=fun i=>((HS.out _).1 i.property).b0
 have k3:∀i:{ w' // S w' },i.val.cell? ⟨w.heap.size+1,1,none⟩=some (.bool sb):=fun i=>((HS.out _).1 i.property).b1
 obtain⟨W,HW⟩:∃W:World,Hid (W=((w.alloc (.cells #[V a,.bool false] 137)).alloc (.cells #[V b,.bool sb] 137)).alloc (.cells #[V 0,.bool false] 137)):=⟨_,rfl⟩;have HS0:S W.drew:=(HS.out _).2 (by rw[HW.out];constructor<;>go_simp);have hne:Nonempty { w' // S w' }:=⟨⟨_,HS0⟩⟩;go_enter Tryz.func128,Tryz.ntmps128;go_wp2_with (fail)
 rw[<-HW.out];refine J04 (S:=S) [(0,true),(1,true),(3,true),(4,true),(7,true),(8,true),(2,false),(5,false),(9,true),(10,true),(11,true),(12,true),(6,false),(13,true),(14,false)] (by kernel_rfl) (by kernel_rfl) (by kernel_rfl) HS0 ?_
 iterate 6 (refine J00 rfl (by kernel_rfl) (fun K hK=>?_);go_simp;refine hK _ _ ?_;clear hK K)
 refine J03 rfl (by kernel_rfl) (fun K hK=>?_);go_simp;refine(c1 _).mono ?_;rintro e w1 ⟨rfl,rfl⟩
 go_simp
 refine hK _ _ HS0 ?_;clear hK K;refine J03 rfl (by kernel_rfl) (fun K hK=>?_);go_simp;refine(c2 _).mono ?_;rintro e w1 ⟨rfl,rfl⟩
 go_simp
 refine hK _ _ HS0 ?_;clear hK K
 iterate 3 (refine J00 rfl (by kernel_rfl) (fun K hK=>?_);go_simp;refine hK _ _ ?_;clear hK K)
 refine J14 rfl rfl (by kernel_rfl) rfl (fun K hK=>?_);go_simp;refine hK _ _ ?_;clear hK K;refine J03 rfl (by kernel_rfl) (fun K hK=>?_);go_simp;refine hK _ _ HS0 ?_;clear hK K
 (refine J00 rfl (by kernel_rfl) (fun K hK=>?_);go_simp;refine hK _ _ ?_;clear hK K)
 rw[HW.out];refine J03 rfl (by kernel_rfl) (fun K hK=>?_);go_simp;refine hK _ _ ((HS.out _).2 (by constructor<;>go_simp)) ?_;clear hK K;refine J06 ?_;clear k0 k1 k2 k3 hne HS0;go_wp2;exact bodyPost_ret (by simp[results,Tryz.results128,go_sem]) rfl ⟨rfl,((((More.refl _).alloc _ _).alloc _ _).alloc _ _).drew⟩

theorem Jgw(a b:Int)(sa sb:Bool)(w:World):
  Calls Tryz.prog 128 #[kn a sa,kn b sb] w fun e w'=>e=.returned (kn (max (bnd a) (bnd b)) (sa||sb))/\More w w':=by
 cases sa with
 | true=>exact Jis a b sb w
 | false=>exact Jgx a b sb w

theorem Jjq(a b:Int)(h0:0<=a)(h1:a<=17)(h2:0<=b)(h3:b<=17)(w:World):
  Calls Tryz.prog 165 #[V a,V b] w fun e w'=>e=.returned (V (if a=0\/b=0 then max a b else max a b+1))/\w'=w:=by
 by_cases ha:a=0
 ·subst ha
  rw[if_pos (.inl rfl)];go_enter Tryz.func165,Tryz.ntmps165;go_wp2;go_ret;exact⟨rfl,rfl⟩
 by_cases hb:b=0
 ·subst hb
  rw[if_pos (.inr rfl)];go_enter Tryz.func165,Tryz.ntmps165;go_wp2;go_ret;exact⟨rfl,rfl⟩
 ·rw[if_neg (by omega)]
  have e1:(a==0)=false:=by simp[ha]
  have e2:(b==0)=false:=by simp[hb]
  obtain⟨m,hm⟩:∃m,max a b=m:=⟨_,rfl⟩;have hm1:m<=17:=by omega
  have hm0:0<=m:=by omega
  rw[hm];go_enter Tryz.func165,Tryz.ntmps165;go_wp2;go_ret;exact⟨rfl,rfl⟩

theorem Jbi(a b:Int)(h0:0<=a)(h1:a<=17)(h2:0<=b)(h3:b<=17)(w:World):
  Calls Tryz.prog 166 #[V a,V b] w fun e w'=>e=.returned (V (if a=0\/b=0 then 0 else a+b))/\w'=w:=by
 by_cases ha:a=0
 ·rw[if_pos (.inl ha)]
  go_enter Tryz.func166,Tryz.ntmps166;go_wp2;go_ret;exact⟨rfl,rfl⟩
 by_cases hb:b=0
 ·rw[if_pos (.inr hb)]
  go_enter Tryz.func166,Tryz.ntmps166;go_wp2;go_ret;exact⟨rfl,rfl⟩
 ·rw[if_neg (by omega)]
  have e1:(a==0)=false:=by simp[ha]
  have e2:(b==0)=false:=by simp[hb]
  go_enter Tryz.func166,Tryz.ntmps166;go_wp2;go_ret;exact⟨rfl,rfl⟩

def opR(op a b:Int):Int:=
 if op=1 then(if a=0\/b=0 then max a b else max a b+1)
 else if op=3 then(if a=0\/b=0 then 0 else a+b)
 else if op=4 then min a b
 else if op=5\/op=6 then max a b
 else if op=8\/op=9\/op=10 then a
 else 17

theorem Jo0(op:Int){a b:Int}(h0:0<=a)(h1:a<=17)(h2:0<=b)(h3:b<=17):bnd (opR op a b)=opB op a b:=by
 unfold opR opB
 split
 ·split
  ·exact J4g (by omega) (by omega)
  ·rfl
 split
 ·split
  ·exact J4g (by omega) (by omega)
  ·rfl
 split
 ·exact J4g (by omega) (by omega)
 split
 ·exact J4g (by omega) (by omega)
 split
 ·exact J4g (by omega) (by omega)
 ·exact J4g (by omega) (by omega)

theorem Jlg(a b R:Int)(c:∀w:World,Calls Tryz.prog 165 #[V a,V b] w fun e w'=>e=.returned (V R)/\w'=w)(w:World):
  Calls Tryz.prog 153 #[V 1,V a,V b] w fun e w'=>e=.returned (V R)/\w'=w:=by
 go_enter Tryz.func153,Tryz.ntmps153;go_wp2_with (fail)
 refine(c _).mono ?_;rintro e w1 ⟨rfl,rfl⟩;go_wp2;go_ret;exact⟨rfl,rfl⟩

theorem Jlh(a b R:Int)(c:∀w:World,Calls Tryz.prog 166 #[V a,V b] w fun e w'=>e=.returned (V R)/\w'=w)(w:World):
  Calls Tryz.prog 153 #[V 3,V a,V b] w fun e w'=>e=.returned (V R)/\w'=w:=by
 go_enter Tryz.func153,Tryz.ntmps153;go_wp2_with (fail)
 refine(c _).mono ?_;rintro e w1 ⟨rfl,rfl⟩;go_wp2;go_ret;exact⟨rfl,rfl⟩

theorem Jli(a b:Int)(w:World):
  Calls Tryz.prog 153 #[V 4,V a,V b] w fun e w'=>e=.returned (V (min a b))/\w'=w:=by
 go_enter Tryz.func153,Tryz.ntmps153;go_wp2;go_ret;exact⟨rfl,rfl⟩

theorem Jlj(a b:Int)(w:World):
  Calls Tryz.prog 153 #[V 5,V a,V b] w fun e w'=>e=.returned (V (max a b))/\w'=w:=by
 go_enter Tryz.func153,Tryz.ntmps153;go_wp2;go_ret;exact⟨rfl,rfl⟩

theorem Jlk(a b:Int)(w:World):
  Calls Tryz.prog 153 #[V 6,V a,V b] w fun e w'=>e=.returned (V (max a b))/\w'=w:=by
 go_enter Tryz.func153,Tryz.ntmps153;go_wp2;go_ret;exact⟨rfl,rfl⟩

theorem Jll(a b:Int)(w:World):
  Calls Tryz.prog 153 #[V 8,V a,V b] w fun e w'=>e=.returned (V (a))/\w'=w:=by
 go_enter Tryz.func153,Tryz.ntmps153;go_wp2;go_ret;exact⟨rfl,rfl⟩

theorem Jlm(a b:Int)(w:World):
  Calls Tryz.prog 153 #[V 9,V a,V b] w fun e w'=>e=.returned (V (a))/\w'=w:=by
 go_enter Tryz.func153,Tryz.ntmps153;go_wp2;go_ret;exact⟨rfl,rfl⟩

theorem Jj8(a b:Int)(w:World):
  Calls Tryz.prog 153 #[V 10,V a,V b] w fun e w'=>e=.returned (V (a))/\w'=w:=by
 go_enter Tryz.func153,Tryz.ntmps153;go_wp2;go_ret;exact⟨rfl,rfl⟩

theorem Jcv(op a b:Int)(h1:¬op=1)(h3:¬op=3)(h4:¬op=4)(h5:¬op=5)(h6:¬op=6)(h8:¬op=8)(h9:¬op=9)(h10:¬op=10)(w:World):
  Calls Tryz.prog 153 #[V op,V a,V b] w fun e w'=>e=.returned (V 17)/\w'=w:=by
 have e1:(op==1)=false:=by simp[h1]
 have e3:(op==3)=false:=by simp[h3]
 have e4:(op==4)=false:=by simp[h4]
 have e5:(op==5)=false:=by simp[h5]
 have e6:(op==6)=false:=by simp[h6]
 have e8:(op==8)=false:=by simp[h8]
 have e9:(op==9)=false:=by simp[h9]
 have e10:(op==10)=false:=by simp[h10]
 clear h1 h3 h4 h5 h6 h8 h9 h10;go_enter Tryz.func153,Tryz.ntmps153;go_wp2;go_ret;exact⟨rfl,rfl⟩

theorem J7k(op a b:Int)(h0:0<=a)(h1:a<=17)(h2:0<=b)(h3:b<=17)(w:World):
  Calls Tryz.prog 153 #[V op,V a,V b] w fun e w'=>e=.returned (V (opR op a b))/\w'=w:=by
 by_cases q1:op=1
 ·subst q1;exact Jlg a b _ (fun w=>Jjq a b h0 h1 h2 h3 w) w
 by_cases q3:op=3
 ·subst q3;exact Jlh a b _ (fun w=>Jbi a b h0 h1 h2 h3 w) w
 by_cases q4:op=4
 ·subst q4;exact Jli a b w
 by_cases q5:op=5
 ·subst q5;exact Jlj a b w
 by_cases q6:op=6
 ·subst q6;exact Jlk a b w
 by_cases q8:op=8
 ·subst q8;exact Jll a b w
 by_cases q9:op=9
 ·subst q9;exact Jlm a b w
 by_cases q10:op=10
 ·subst q10;exact Jj8 a b w
 ·rw[show opR op a b=17 by unfold opR;rw[if_neg q1,if_neg q3,if_neg q4,if_neg (by omega),if_neg (by omega)]]
  exact Jcv op a b q1 q3 q4 q5 q6 q8 q9 q10 w

theorem Jo1(op a b x y z r:Int)(sb:Bool)
  (c1:∀w:World,Calls Tryz.prog 151 #[V a] w fun e w'=>e=.returned (V x)/\w'=w)
  (c2:∀w:World,Calls Tryz.prog 151 #[V b] w fun e w'=>e=.returned (V y)/\w'=w)
  (c3:∀w:World,Calls Tryz.prog 153 #[V op,V x,V y] w fun e w'=>e=.returned (V z)/\w'=w)
  (c4:∀w:World,Calls Tryz.prog 151 #[V z] w fun e w'=>e=.returned (V r)/\w'=w) (w:World):
  Calls Tryz.prog 133 #[V op,kn a true,kn b sb] w fun e w'=>e=.returned (kn r true)/\More w w':=by
 unfold kn;obtain⟨S,HS⟩:∃S:World->Prop,Hid (∀w',S w'↔Two w.heap.size a true b sb w'):=⟨_,fun _=>Iff.rfl⟩;have k0:∀i:{ w' // S w' },i.val.cell? ⟨w.heap.size,0,none⟩=some (V a):=fun i=>((HS.out _).1 i.property).a0
 have k1:∀i:{ w' // S w' },i.val.cell? ⟨w.heap.size,1,none⟩=some (.bool true):=fun i=>((HS.out _).1 i.property).a1
 have k2:∀i:{ w' // S w' },i.val.cell? ⟨w.heap.size+1,0,none⟩=some (V b):=fun i=>((HS.out _).1 i.property).b0
 have k3:∀i:{ w' // S w' },i.val.cell? ⟨w.heap.size+1,1,none⟩=some (.bool sb):=fun i=>((HS.out _).1 i.property).b1
 obtain⟨W,HW⟩:∃W:World,Hid (W=((w.alloc (.cells #[V a,.bool true] 137)).alloc (.cells #[V b,.bool sb] 137)).alloc (.cells #[V 0,.bool false] 137)):=⟨_,rfl⟩;have HS0:S W.drew:=(HS.out _).2 (by rw[HW.out];constructor<;>go_simp);have hne:Nonempty { w' // S w' }:=⟨⟨_,HS0⟩⟩;have HS1:S W.drew.drew:=(HS.out _).2 (by rw[HW.out];constructor<;>go_simp);go_enter Tryz.func133,Tryz.ntmps133;go_wp2_with (fail)
 rw[<-HW.out];refine J04 (S:=S) [(0,true),(1,true),(2,true),(4,true),(5,true),(3,false),(6,false),(7,false),(8,true)] (by kernel_rfl) (by kernel_rfl) (by kernel_rfl) HS0 ?_
 iterate 5 (refine J00 rfl (by kernel_rfl) (fun K hK=>?_);go_simp;refine hK _ _ ?_;clear hK K)
 refine J03 rfl (by kernel_rfl) (fun K hK=>?_);go_simp;refine(c1 _).mono ?_;rintro e w1 ⟨rfl,rfl⟩
 go_simp
 refine hK _ _ HS0 ?_;clear hK K;refine J03 rfl (by kernel_rfl) (fun K hK=>?_);go_simp;refine(c2 _).mono ?_;rintro e w1 ⟨rfl,rfl⟩
 go_simp
 refine hK _ _ HS0 ?_;clear hK K;refine J03 rfl (by kernel_rfl) (fun K hK=>?_);go_simp;refine(c3 _).mono ?_;rintro e w1 ⟨rfl,rfl⟩
 go_simp
 refine hK _ _ HS0 ?_;clear hK K
 (refine J00 rfl (by kernel_rfl) (fun K hK=>?_);go_simp;refine hK _ _ ?_;clear hK K)
 refine J06 ?_;go_wp2_with (fail)
 refine J04 (S:=S) [(0,true),(2,true),(3,true),(1,false),(4,true),(5,true),(6,true),(7,true),(8,true),(9,false)] (by kernel_rfl) (by kernel_rfl) (by kernel_rfl) HS1 ?_
 iterate 3 (refine J00 rfl (by kernel_rfl) (fun K hK=>?_);go_simp;refine hK _ _ ?_;clear hK K)
 refine J03 rfl (by kernel_rfl) (fun K hK=>?_);go_simp;refine(c4 _).mono ?_;rintro e w1 ⟨rfl,rfl⟩
 go_simp
 refine hK _ _ HS1 ?_;clear hK K
 (refine J00 rfl (by kernel_rfl) (fun K hK=>?_);go_simp;refine hK _ _ ?_;clear hK K)
 iterate 2 (refine J2b rfl HS1 (by kernel_rfl) (by kernel_rfl) ?_)
 refine J1p rfl rfl (by kernel_rfl) rfl (fun K hK=>?_);go_simp;refine hK _ _ ?_;clear hK K
 (refine J00 rfl (by kernel_rfl) (fun K hK=>?_);go_simp;refine hK _ _ ?_;clear hK K)
 rw[HW.out];refine J03 rfl (by kernel_rfl) (fun K hK=>?_);go_simp;refine hK _ _ ((HS.out _).2 (by constructor<;>go_simp)) ?_;clear hK K;refine J06 ?_;clear HS1 k0 k1 k2 k3 hne HS0;go_wp2;exact bodyPost_ret (by simp[results,Tryz.results133,go_sem]) rfl ⟨rfl,((((More.refl _).alloc _ _).alloc _ _).alloc _ _).drew.drew⟩

theorem Jln(op a b x y z r:Int)(sb:Bool)
  (c1:∀w:World,Calls Tryz.prog 151 #[V a] w fun e w'=>e=.returned (V x)/\w'=w)
  (c2:∀w:World,Calls Tryz.prog 151 #[V b] w fun e w'=>e=.returned (V y)/\w'=w)
  (c3:∀w:World,Calls Tryz.prog 153 #[V op,V x,V y] w fun e w'=>e=.returned (V z)/\w'=w)
  (c4:∀w:World,Calls Tryz.prog 151 #[V z] w fun e w'=>e=.returned (V r)/\w'=w) (w:World):
  Calls Tryz.prog 133 #[V op,kn a false,kn b sb] w fun e w'=>e=.returned (kn r sb)/\More w w':=by
 unfold kn;obtain⟨S,HS⟩:∃S:World->Prop,Hid (∀w',S w'↔Two w.heap.size a false b sb w'):=⟨_,fun _=>Iff.rfl⟩;have k0:∀i:{ w' // S w' },i.val.cell? ⟨w.heap.size,0,none⟩=some (V a):=fun i=>((HS.out _).1 i.property).a0
 have k1:∀i:{ w' // S w' },i.val.cell? ⟨w.heap.size,1,none⟩=some (.bool false):=fun i=>((HS.out _).1 i.property).a1
 have k2:∀i:{ w' // S w' },i.val.cell? ⟨w.heap.size+1,0,none⟩=some (V b):=fun i=>((HS.out _).1 i.property).b0
 have k3:∀i:{ w' // S w' },i.val.cell? ⟨w.heap.size+1,1,none⟩=some (.bool sb):=fun i=>((HS.out _).1 i.property).b1
 obtain⟨W,HW⟩:∃W:World,Hid (W=((w.alloc (.cells #[V a,.bool false] 137)).alloc (.cells #[V b,.bool sb] 137)).alloc (.cells #[V 0,.bool false] 137)):=⟨_,rfl⟩;have HS0:S W.drew:=(HS.out _).2 (by rw[HW.out];constructor<;>go_simp);have hne:Nonempty { w' // S w' }:=⟨⟨_,HS0⟩⟩;have HS1:S W.drew.drew:=(HS.out _).2 (by rw[HW.out];constructor<;>go_simp);go_enter Tryz.func133,Tryz.ntmps133;go_wp2_with (fail)
 rw[<-HW.out];refine J04 (S:=S) [(0,true),(1,true),(2,true),(4,true),(5,true),(3,false),(6,false),(7,false),(8,true)] (by kernel_rfl) (by kernel_rfl) (by kernel_rfl) HS0 ?_
 iterate 5 (refine J00 rfl (by kernel_rfl) (fun K hK=>?_);go_simp;refine hK _ _ ?_;clear hK K)
 refine J03 rfl (by kernel_rfl) (fun K hK=>?_);go_simp;refine(c1 _).mono ?_;rintro e w1 ⟨rfl,rfl⟩
 go_simp
 refine hK _ _ HS0 ?_;clear hK K;refine J03 rfl (by kernel_rfl) (fun K hK=>?_);go_simp;refine(c2 _).mono ?_;rintro e w1 ⟨rfl,rfl⟩
 go_simp
 refine hK _ _ HS0 ?_;clear hK K;refine J03 rfl (by kernel_rfl) (fun K hK=>?_);go_simp;refine(c3 _).mono ?_;rintro e w1 ⟨rfl,rfl⟩
 go_simp
 refine hK _ _ HS0 ?_;clear hK K
 (refine J00 rfl (by kernel_rfl) (fun K hK=>?_);go_simp;refine hK _ _ ?_;clear hK K)
 refine J06 ?_;go_wp2_with (fail)
 refine J04 (S:=S) [(0,true),(2,true),(3,true),(1,false),(4,true),(5,true),(6,true),(7,true),(8,true),(9,false)] (by kernel_rfl) (by kernel_rfl) (by kernel_rfl) HS1 ?_
 iterate 3 (refine J00 rfl (by kernel_rfl) (fun K hK=>?_);go_simp;refine hK _ _ ?_;clear hK K)
 refine J03 rfl (by kernel_rfl) (fun K hK=>?_);go_simp;refine(c4 _).mono ?_;rintro e w1 ⟨rfl,rfl⟩
 go_simp
 refine hK _ _ HS1 ?_;clear hK K
 (refine J00 rfl (by kernel_rfl) (fun K hK=>?_);go_simp;refine hK _ _ ?_;clear hK K)
 iterate 2 (refine J00 rfl (by kernel_rfl) (fun K hK=>?_);go_simp;refine hK _ _ ?_;clear hK K)
 refine J14 rfl rfl (by kernel_rfl) rfl (fun K hK=>?_);go_simp;refine hK _ _ ?_;clear hK K
 (refine J00 rfl (by kernel_rfl) (fun K hK=>?_);go_simp;refine hK _ _ ?_;clear hK K)
 rw[HW.out];refine J03 rfl (by kernel_rfl) (fun K hK=>?_);go_simp;refine hK _ _ ((HS.out _).2 (by constructor<;>go_simp)) ?_;clear hK K;refine J06 ?_;clear HS1 k0 k1 k2 k3 hne HS0;go_wp2;exact bodyPost_ret (by simp[results,Tryz.results133,go_sem]) rfl ⟨rfl,((((More.refl _).alloc _ _).alloc _ _).alloc _ _).drew.drew⟩

theorem J5e(op a b:Int)(sa sb:Bool)(w:World):
  Calls Tryz.prog 133 #[V op,kn a sa,kn b sb] w fun e w'=>e=.returned (kn (opB op (bnd a) (bnd b)) (sa||sb))/\More w w':=by
 have ra:=J12 a;have rb:=J12 b;rw[<-Jo0 op ra.1 ra.2 rb.1 rb.2];cases sa with
 | true=>exact Jo1 op a b _ _ _ _ sb (J0j a) (J0j b) (fun w=>J7k op _ _ ra.1 ra.2 rb.1 rb.2 w) (J0j _) w
 | false=>exact Jln op a b _ _ _ _ sb (J0j a) (J0j b) (fun w=>J7k op _ _ ra.1 ra.2 rb.1 rb.2 w) (J0j _) w

theorem J8g(n:Int)(w:World):
  Calls Tryz.prog 130 #[V n] w fun e w'=>e=.returned (kn (fitI n) false)/\More w w':=by
 obtain⟨x,hx⟩:∃x,fitI n=x:=⟨_,rfl⟩;have c1:∀w:World,Calls Tryz.prog 152 #[V n] w fun e w'=>e=.returned (V x)/\w'=w:=fun w=>hx▸Jay n w
 rw[hx];clear hx;unfold kn;go_enter Tryz.func130,Tryz.ntmps130;go_wp2_with (fail)
 refine(c1 _).mono ?_;rintro e w1 ⟨rfl,rfl⟩;go_wp2;exact bodyPost_ret (by simp[results,Tryz.results130,go_sem]) rfl ⟨rfl,(More.refl _).alloc _ _⟩
end
section
open Go.RowKit
set_option linter.unusedVariables false
def flatK(s:KS):Nat->List Value
 | 0=>[]
 | n+1=>flatK s n++[V (s n).b,.bool (s n).s]
theorem J18(s:KS):∀n,(flatK s n).length=n*2
 | 0=>rfl
 | n+1=>by rw[flatK,List.length_append,J18 s n];simp;omega
theorem J7x(s:KS):∀n j,j < n->(flatK s n)[j*2]?=some (V (s j).b)/\(flatK s n)[j*2+1]?=some (.bool (s j).s)
 | 0,j,h=>absurd h (Nat.not_lt_zero _)
 | n+1,j,h=>by
  rw[flatK];by_cases e:j=n
  ·subst e
   rw[List.getElem?_append_right (by rw[J18];omega),List.getElem?_append_right (by rw[J18];omega),J18]
   simp
  ·rw[List.getElem?_append_left (by rw[J18];omega),List.getElem?_append_left (by rw[J18];omega)]
   exact J7x s n j (by omega)
theorem J8f(s:KS):∀n,∀u ∈ flatK s n,u.oneCell'=true
 | 0,u,h=>by simp[flatK]at h
 | n+1,u,h=>by
  rw[flatK,List.mem_append]at h;rcases h with h | h
  ·exact J8f s n u h
  ·simp at h;rcases h with rfl | rfl<;>rfl
end
section
open Go.RowKit
set_option linter.unusedSimpArgs false
set_option linter.unusedVariables false
def kv(s:KS):Array Value:=(flatK s 8).toArray
theorem J0d(s:KS):(kv s).size=16:=by simp[kv,J18]
theorem kv_at(s:KS)(j:Nat)(h:j < 8):(kv s)[j*2]?=some (V (s j).b)/\(kv s)[j*2+1]?=some (.bool (s j).s):=by
 simpa[kv]using J7x s 8 j h
theorem J2w(s:KS):(kv s).all (·.oneCell')=true:=by
 unfold kv;rw[List.all_toArray,List.all_eq_true];exact J8f s 8
theorem Jp0{s t:KS}:(∀j,j < 8->s j=t j)->kv s=kv t:=by
 intro h
 have:∀n,n<=8->flatK s n=flatK t n:=by
  intro n
  induction n with
  | zero=>intro _;rfl
  | succ n ih=>intro hn;rw[flatK,flatK,ih (by omega),h n (by omega)]
 unfold kv;rw[this 8 (Nat.le_refl _)]
theorem kv_is{c:Array Value}{s:KS}(hs:c.size=16)(h:∀j,j < 8->c[j*2]?=some (V (s j).b)/\c[j*2+1]?=some (.bool (s j).s)):c=kv s:=by
 apply Array.ext_getElem?;intro j;by_cases e:j < 16
 ·have h1:=h (j / 2) (by omega)
  have h2:=kv_at s (j / 2) (by omega);by_cases e2:j % 2=0
  ·have e3:j / 2*2=j:=by omega
   rw[e3]at h1 h2;rw[h1.1,h2.1]
  ·have e3:j / 2*2+1=j:=by omega
   rw[e3]at h1 h2;rw[h1.2,h2.2]
 ·rw[Array.getElem?_eq_none (by omega),Array.getElem?_eq_none (by rw[J0d];omega)]
theorem Jp1(s:KS)(a:Int)(b:Int)(t:Bool)(ha:a.toNat < 8):((kv s).setIfInBounds (a.toNat*2) (V b)).setIfInBounds (a.toNat*2+1) (.bool t)=kv (setK s a ⟨b,t⟩):=by
 refine kv_is (by simp[J0d]) (fun j hj=>?_);have hk:=kv_at s j hj;have hz:=J0d s;unfold setK;by_cases e:j=a.toNat
 ·subst e
  rw[if_pos rfl];refine⟨?_,?_⟩
  ·rw[Array.getElem?_setIfInBounds_ne (by omega),Array.getElem?_setIfInBounds_self_of_lt (by omega)]
  ·rw[Array.getElem?_setIfInBounds_self_of_lt (by simp;omega)]
 ·rw[if_neg e]
  refine⟨?_,?_⟩
  ·rw[Array.getElem?_setIfInBounds_ne (by omega),Array.getElem?_setIfInBounds_ne (by omega)];exact hk.1
  ·rw[Array.getElem?_setIfInBounds_ne (by omega),Array.getElem?_setIfInBounds_ne (by omega)];exact hk.2

theorem Blk.set{w:World}{n:Nat}{c:Array Value}{T:TypeId}(h:Blk w n c T)(o:Nat)(v:Value):Blk (w.setCell ⟨n,o,none⟩ v) n (c.setIfInBounds o v) T:=by
 unfold Blk at *;rw[setCell_eq_setRow w n o c T (0,0) v h];exact setRow_heap w n c _ T _ h
theorem Blk.setK{w:World}{n:Nat}{s:KS}{T:TypeId}(h:Blk w n (kv s) T)(a b:Int)(t:Bool)(ha:a.toNat < 8):
  Blk ((w.setCell ⟨n,a.toNat*2,none⟩ (V b)).setCell ⟨n,a.toNat*2+1,none⟩ (.bool t)) n (kv (setK s a ⟨b,t⟩)) T:=by
 rw[<-Jp1 s a b t ha];exact(h.set _ _).set _ _
theorem Blk.ne{w:World}{n m:Nat}{c d:Array Value}{T U:TypeId}(h:Blk w n c T)(k:Blk w m d U)(hne:T≠U):n≠m:=by
 rintro rfl;unfold Blk at h k;rw[h]at k;simp only[Option.some.injEq,Obj.cells.injEq]at k;exact hne k.2.1

theorem J6g{P:Program}(w:World)(g o:Nat)(ty:TypeId)(cs:Array Value)(d:TypeDesc)(hc:∀j v,cs[j]?=some v->w.cell? ⟨g,o+j,none⟩=some v)
  (hu:P.underlying ty=some d) (hd:(match d with | .struct _ | .array _ _=>true | _=>false)=true) (hi:(P.info? ty).map (·.size)=some cs.size):
  (loadVar ty ⟨g,o,none⟩).run P w=.ok (.agg cs) w:=by
 have hl:(loadCells ⟨g,o,none⟩ cs.size).run P w=.ok cs w:=by
  have:=run_loadCells_list (P:=P) w ⟨g,o,none⟩ cs.toList (fun j v hv=>by rw[Go.WideShapes.add_plain];exact hc j v (by simpa using hv));simpa using this
 cases hq:P.info? ty with
 | none=>simp[hq]at hi
 | some i=>
  have hs:i.size=cs.size:=by simpa[hq]using hi
  have hagg:(isAgg ty).run P w=.ok true w:=by
   unfold isAgg;rw[Sem.run_bind,run_underlying hu w];cases d<;>simp_all
  simp[loadVar,Sem.run_bind,hagg,sizeOf,typeInfo,hq,hs,hl]

theorem J0y{P:Program}{o:Oper}{a:Act}{w:World}(ty:TypeId)(x:Operand)(ho:o.op=.load ty x)
  (g k:Nat) (hx:a.eval x=.pointer (some ⟨g,k,none⟩)) (cs:Array Value) (d:TypeDesc) (hc:∀j v,cs[j]?=some v->w.cell? ⟨g,k+j,none⟩=some v)
  (hu:P.underlying ty=some d) (hd:(match d with | .struct _ | .array _ _=>true | _=>false)=true) (hi:(P.info? ty).map (·.size)=some cs.size):
  (execOp a.eval o).run P w=.ok (.value (.agg cs)) w:=by
 unfold execOp;simp only[ho,hx,Instr.loadAt,Instr.sureAddr,Sem.run_bind,Sem.run_pure,Result.andThen_ok,J6g w g k ty cs d hc hu hd hi]

theorem Jdl{P:Program}{o:Oper}{a:Act}{w:World}{K:Act->World->Prop}{Q:Exit->Act->World->Prop}(ty:TypeId)(x:Operand)(ho:o.op=.load ty x)
  (g k:Nat) (hx:a.eval x=.pointer (some ⟨g,k,none⟩)) (cs:Array Value) (d:TypeDesc) (hc:∀j v,cs[j]?=some v->w.cell? ⟨g,k+j,none⟩=some v)
  (hu:P.underlying ty=some d) (hd:(match d with | .struct _ | .array _ _=>true | _=>false)=true) (hi:(P.info? ty).map (·.size)=some cs.size)
  (h:K (a.put o.dst (.agg cs)) w):o.wp P a w K Q:=by
 unfold Oper.wp execOp;simp only[ho,hx,Instr.loadAt,Instr.sureAddr,Sem.run_bind,Sem.run_pure,Result.andThen_ok,J6g w g k ty cs d hc hu hd hi];exact h
theorem J4e{P:Program}{ops:Array Oper}{rest:List Oper}{o:Oper}{a:Act}{w:World}{Q:Exit->Act->World->Prop}(hgd:o.guard=none)(ty:TypeId)(x:Operand)(ho:o.op=.load ty x)
  (g k:Nat) (hx:a.eval x=.pointer (some ⟨g,k,none⟩)) (cs:Array Value) (d:TypeDesc) (hc:∀j v,cs[j]?=some v->w.cell? ⟨g,k+j,none⟩=some v)
  (hu:P.underlying ty=some d) (hd:(match d with | .struct _ | .array _ _=>true | _=>false)=true) (hi:(P.info? ty).map (·.size)=some cs.size)
  (h:wpList P ops Q rest (a.put o.dst (.agg cs)) w):wpList P ops Q (o::rest) a w:=
 wpList_plain hgd fun _ hK=>Jdl ty x ho g k hx cs d hc hu hd hi (hK _ _ h)

theorem J9k{P:Program}(w:World)(g o:Nat)(ty:TypeId)(cs:Array Value)(hi:(P.info? ty).map (·.size)=some cs.size)(hc:∀j,j < cs.size->(w.cell? ⟨g,o+j,none⟩).isSome=true/\w.frozen? ⟨g,o+j,none⟩=false)(h1:cs.all (·.oneCell')=true):
  (storeVar ty ⟨g,o,none⟩ (.agg cs)).run P w=.ok () (w.setCells g o cs.toList):=by
 have hst:=run_storeCells_cells (P:=P) g o cs.toList 0 w (fun j hj=>(hc j (by simpa using hj)).1) (fun j hj=>(hc j (by simpa using hj)).2) (fun v hv=>by
  obtain⟨i,hi',rfl⟩:=List.getElem_of_mem hv;have:=Array.all_eq_true.1 h1 i (by simpa using hi');simpa using this)
 cases hq:P.info? ty with
 | none=>simp[hq]at hi
 | some i=>
  have hs:cs.size=i.size:=by simp[hq]at hi;omega
  simp[storeVar,sizeOf,typeInfo,hq,Value.cells,hs];simpa using hst
theorem Jbv{P:Program}{o:Oper}{a:Act}{w:World}{K:Act->World->Prop}{Q:Exit->Act->World->Prop}(ty:TypeId)(x y:Operand)(ho:o.op=.store ty x y)
  (g k:Nat) (cs:Array Value) (hx:a.eval x=.pointer (some ⟨g,k,none⟩)) (hy:a.eval y=.agg cs) (hi:(P.info? ty).map (·.size)=some cs.size) (hc:∀j,j < cs.size->(w.cell? ⟨g,k+j,none⟩).isSome=true/\w.frozen? ⟨g,k+j,none⟩=false) (h1:cs.all (·.oneCell')=true)
  (h:K (a.put o.dst undef) (w.setCells g k cs.toList)):o.wp P a w K Q:=by
 unfold Oper.wp execOp;simp only[ho,hx,hy,Instr.storeAt,Instr.sureAddr,Sem.run_bind,Sem.run_pure,Result.andThen_ok,J9k w g k ty cs hi hc h1];exact h
theorem J3x{P:Program}{ops:Array Oper}{rest:List Oper}{o:Oper}{a:Act}{w:World}{Q:Exit->Act->World->Prop}(hgd:o.guard=none)(ty:TypeId)(x y:Operand)(ho:o.op=.store ty x y)
  (g k:Nat) (cs:Array Value) (hx:a.eval x=.pointer (some ⟨g,k,none⟩)) (hy:a.eval y=.agg cs) (hi:(P.info? ty).map (·.size)=some cs.size) (hc:∀j,j < cs.size->(w.cell? ⟨g,k+j,none⟩).isSome=true/\w.frozen? ⟨g,k+j,none⟩=false) (h1:cs.all (·.oneCell')=true)
  (h:wpList P ops Q rest (a.put o.dst undef) (w.setCells g k cs.toList)):wpList P ops Q (o::rest) a w:=
 wpList_plain hgd fun _ hK=>Jbv ty x y ho g k cs hx hy hi hc h1 (hK _ _ h)

theorem J3l(M:Nat):∀(vs:List Value) (o:Nat) (w:World),w.grownBy (w.setCells M o vs) (some M)
 | [],o,w=>⟨rfl,rfl,rfl,Nat.le_refl _,fun _ _ _=>rfl⟩
 | v::vs,o,w=>J25 (J19 w M o v) (J3l M vs (o+1) _)

def pv(o:Option KS):Array Value:=(kv (o.getD zeroK)).push (.bool o.isSome)
theorem J3o(o:Option KS):(pv o).size=17:=by simp[pv,J0d]
theorem Jjj(o:Option KS):(pv o).all (·.oneCell')=true:=by
 unfold pv;rw[Array.all_push,J2w]
 rfl
theorem Jji(o:Option KS):(pv o)[16]?=some (.bool o.isSome):=by
 unfold pv;rw[Array.getElem?_push,if_pos (by rw[J0d])]
theorem pv_kv(s:KS)(j:Nat)(v:Value)(h:(kv s)[j]?=some v):(pv (some s))[j]?=some v:=by
 have hj:j < 16:=by have:=(Array.getElem?_eq_some_iff.1 h).1;rwa [J0d]at this
 unfold pv;rw[Array.getElem?_push,if_neg (by rw[J0d];omega)];exact h

def PlS(w:World)(B cl:Nat)(l:KV):Prop:=∃c,Blk w B c 141/\c.size=cl*17/\∀k j,k < cl->j < 17->c[k*17+j]?=(pv (l k))[j]?

theorem PlS.block{w w':World}{B cl:Nat}{l:KV}(h:PlS w B cl l)(e:w'.heap[B]?=w.heap[B]?):PlS w' B cl l:=by
 obtain⟨c,h1,h2,h3⟩:=h;exact⟨c,e.trans h1,h2,h3⟩
theorem PlS.cells{w:World}{B cl:Nat}{l:KV}(h:PlS w B cl l){k:Nat}(hk:k < cl):∀j v,(pv (l k))[j]?=some v->w.cell? ⟨B,k*17+j,none⟩=some v:=by
 intro j v hv;obtain⟨c,h1,h2,h3⟩:=h;have hj:j < 17:=by have:=(Array.getElem?_eq_some_iff.1 hv).1;rwa [J3o]at this
 exact h1.cell ((h3 k j hk hj).trans hv)
theorem PlS.regs{w:World}{B cl:Nat}{l:KV}(h:PlS w B cl l){k:Nat}(hk:k < cl){s:KS}(e:l k=some s):∀j v,(kv s)[j]?=some v->w.cell? ⟨B,k*17+j,none⟩=some v:=by
 intro j v hv;refine h.cells hk j v ?_;rw[e];exact pv_kv s j v hv
theorem PlS.reached{w:World}{B cl:Nat}{l:KV}(h:PlS w B cl l){k:Nat}(hk:k < cl):w.cell? ⟨B,k*17+16,none⟩=some (.bool (l k).isSome):=h.cells hk 16 _ (Jji _)
theorem PlS.free{w:World}{B cl:Nat}{l:KV}(h:PlS w B cl l){k:Nat}(hk:k < cl):∀j,j < 17->(w.cell? ⟨B,k*17+j,none⟩).isSome=true/\w.frozen? ⟨B,k*17+j,none⟩=false:=by
 intro j hj;obtain⟨c,h1,h2,h3⟩:=h;refine⟨?_,h1.frozen _⟩;have hs:j < (pv (l k)).size:=by rw[J3o];exact hj
 rw[h1.cell ((h3 k j hk hj).trans (Array.getElem?_eq_getElem hs))]
 rfl
theorem PlS.put{w:World}{B cl:Nat}{l:KV}(h:PlS w B cl l){k:Nat}(hk:k < cl)(s:KS):PlS (w.setCells B (k*17) (pv (some s)).toList) B cl (putV l k s):=by
 obtain⟨c,h1,h2,h3⟩:=h;obtain⟨c',k1,k2,k3⟩:=J4y (T:=141) (pv (some s)).toList (k*17) c w h1 (by rw[Array.length_toList,J3o,h2];omega);refine⟨c',k1,k2.trans h2,fun m j hm hj=>?_⟩;rw[k3,Array.length_toList,J3o];by_cases e:m=k
 ·subst e
  rw[if_pos (by omega),J1t]
  simp
 ·rw[J1v _ e,if_neg (by omega)]
  exact h3 m j hm hj
theorem PlS.lt{w:World}{B cl:Nat}{l:KV}(h:PlS w B cl l):B < w.heap.size:=by
 obtain⟨c,h1,_⟩:=h;exact h1.lt

structure Ck(w0:World)(p:Prg)(lo:Loc)(M B:Nat)(l:KV)(td:List Nat)(tv:Value)(w:World):Prop where
 box:Blk w M #[.slice lo.ra p.rl lo.rc,.slice lo.ca p.cl lo.cc,.slice (some ⟨B,0,none⟩) p.cl p.cl,tv] 102
 own:w.ownsRow w0.heap.size 3 1 tv td.length (td.map fun(k:Nat)=>Value.int .i64 (k:Int))
 pl:PlS w B p.cl l
 up:More w0 w
 pin:PIn w0 p lo
 lo:w0.heap.size<=M/\w0.heap.size<=B

def Keeps(w w':World):Prop:=∀n c T,T≠102->T≠141->T≠3->Blk w n c T->Blk w' n c T
theorem Keeps.trans{a b c:World}(h:Keeps a b)(k:Keeps b c):Keeps a c:=fun n d T h1 h2 h3 q=>k n d T h1 h2 h3 (h n d T h1 h2 h3 q)
theorem Keeps.of{w w':World}(m:More w w'):Keeps w w':=fun n c T _ _ _ q=>q.more m

section
variable {w0:World} {p:Prg} {lo:Loc} {M B:Nat} {l:KV} {td:List Nat} {tv:Value} {w:World}
theorem Ck.pinw(h:Ck w0 p lo M B l td tv w):PIn w p lo:=h.pin.more h.up
theorem Ck.plB(h:Ck w0 p lo M B l td tv w):∃c,Blk w B c 141:=by obtain⟨c,h1,_⟩:=h.pl;exact⟨c,h1⟩
theorem Ck.ne(h:Ck w0 p lo M B l td tv w):M≠B:=by obtain⟨c,h1⟩:=h.plB;exact h.box.ne h1 (by decide)
theorem Ck.tne(h:Ck w0 p lo M B l td tv w){n:Nat}{c:Array Value}{T:TypeId}(hb:Blk w n c T)(hT:T≠3):tv.ownBlock≠some n:=by
 intro e;rcases h.own.2 with⟨rfl,_⟩ | ⟨g,cap,cur,rfl,_,hg,_⟩
 ·simp[Value.ownBlock]at e
 ·simp[Value.ownBlock]at e
  subst e;unfold Blk at hb;rw[hb]at hg;simp only[Option.some.injEq,Obj.cells.injEq]at hg;exact hT hg.2.1
theorem Ck.more(h:Ck w0 p lo M B l td tv w){w':World}(m:More w w'):Ck w0 p lo M B l td tv w':=
 ⟨h.box.more m,h.own.kept (m.grow none) (by cases tv.ownBlock<;>simp),h.pl.block (m.block _ h.pl.lt),h.up.trans m,h.pin,h.lo⟩
theorem Ck.put(h:Ck w0 p lo M B l td tv w){k:Nat}(hk:k < p.cl)(s:KS):Ck w0 p lo M B (putV l k s) td tv (w.setCells B (k*17) (pv (some s)).toList):=by
 obtain⟨c,hB⟩:=h.plB;have g:=J3l B (pv (some s)).toList (k*17) w;refine⟨(g.block M h.box.lt (fun e=>h.ne (Option.some.inj e))).trans h.box,h.own.kept g (.inr (h.tne hB (by decide))),h.pl.put hk s,h.up.grownBy g (fun b hb=>by have:=Option.some.inj hb;have:=h.lo.2;omega),h.pin,h.lo⟩
theorem Ck.put_keeps(h:Ck w0 p lo M B l td tv w){k:Nat}(s:KS):Keeps w (w.setCells B (k*17) (pv (some s)).toList):=by
 intro n c T h1 h2 h3 q;obtain⟨d,hB⟩:=h.plB;have g:=J3l B (pv (some s)).toList (k*17) w;exact(g.block n q.lt (fun e=>q.ne hB h2 (Option.some.inj e))).trans q
theorem Ck.set(h:Ck w0 p lo M B l td tv w){td':List Nat}{tv':Value}{w':World}(g:w.grownBy w' tv.ownBlock)(ho:w'.ownsRow w0.heap.size 3 1 tv' td'.length (td'.map fun(k:Nat)=>Value.int .i64 (k:Int))):
  Ck w0 p lo M B l td' tv' (w'.setCell ⟨M,3,none⟩ tv'):=by
 obtain⟨c,hB⟩:=h.plB;have hb:Blk w' M #[.slice lo.ra p.rl lo.rc,.slice lo.ca p.cl lo.cc,.slice (some ⟨B,0,none⟩) p.cl p.cl,tv] 102:=(g.block M h.box.lt (fun e=>h.tne h.box (by decide) e.symm)).trans h.box;have hb':=hb.set 3 tv';have hpl:PlS w' B p.cl l:=h.pl.block (g.block B h.pl.lt (fun e=>h.tne hB (by decide) e.symm));have hup:More w0 w':=h.up.grownBy g (fun b hb=>(h.own.lt b hb).1)
 have hM:tv'.ownBlock≠some M:=by
  intro e;rcases ho.2 with⟨rfl,_⟩ | ⟨g',cap,cur,rfl,_,hg,_⟩
  ·simp[Value.ownBlock]at e
  ·simp[Value.ownBlock]at e
   subst e;unfold Blk at hb;rw[hb]at hg;simp only[Option.some.injEq,Obj.cells.injEq]at hg;exact absurd hg.2.1 (by decide)
 refine⟨hb',ho.kept (J19 w' M 3 tv') (.inr hM),hpl.block (Below.heap_setCell _ _ _ _ (fun e=>h.ne e.symm)),hup.setCell h.lo.1 _,h.pin,h.lo⟩
theorem Ck.set_keeps(h:Ck w0 p lo M B l td tv w){tv':Value}{w':World}(g:w.grownBy w' tv.ownBlock):Keeps w (w'.setCell ⟨M,3,none⟩ tv'):=by
 intro n c T h1 h2 h3 q;have q':Blk w' n c T:=(g.block n q.lt (fun e=>h.tne q h3 e.symm)).trans q;exact q'.other (fun e=>by subst e;exact q.ne h.box h1 rfl) _ _
end
theorem Jpa(a n xb rb:Int)(sa xs rs:Bool)
  (c1:∀w:World,Calls Tryz.prog 130 #[V n] w fun e w'=>e=.returned (.agg #[V xb,.bool xs])/\More w w')
  (c2:∀w:World,Calls Tryz.prog 133 #[V 1,.agg #[V a,.bool sa],.agg #[V xb,.bool xs]] w fun e w'=>e=.returned (.agg #[V rb,.bool rs])/\More w w') (w:World):
  Calls Tryz.prog 131 #[.agg #[V a,.bool sa],V n] w fun e w'=>e=.returned (.agg #[V rb,.bool rs])/\More w w':=by
 obtain⟨S,HS⟩:∃S:World->Prop,Hid (∀w',S w'↔(Blk w' w.heap.size #[V a,.bool sa] 137)):=⟨_,fun _=>Iff.rfl⟩;have k0:∀i:{ w' // S w' },i.val.cell? ⟨w.heap.size,0,none⟩=some (V a):=fun i=>((HS.out _).1 i.property).cell rfl
 have k1:∀i:{ w' // S w' },i.val.cell? ⟨w.heap.size,1,none⟩=some (.bool sa):=fun i=>((HS.out _).1 i.property).cell rfl
 obtain⟨W,HW⟩:∃W:World,Hid (W=(w.alloc (.cells #[V a,.bool sa] 137)).alloc (.cells #[V 0,.bool false] 137)):=⟨_,rfl⟩
 have HB:Hid (Blk W w.heap.size #[V a,.bool sa] 137/\Blk W (w.heap.size+1) #[V 0,.bool false] 137/\More w W):=by
  rw[HW.out];exact⟨(Blk.last _ _ _).alloc _ _,(by simpa using Blk.last (w.alloc (.cells #[V a,.bool sa] 137)) #[V 0,.bool false] 137),((More.refl _).alloc _ _).alloc _ _⟩
 have HS0:S W.drew:=(HS.out _).2 HB.out.1;have hne:Nonempty { w' // S w' }:=⟨⟨_,HS0⟩⟩;go_enter Tryz.func131,Tryz.ntmps131;go_wp2_with (fail)
 rw[<-HW.out];refine J04 (S:=S) [(0,true),(1,true),(2,false),(3,false),(4,false)] (by kernel_rfl) (by kernel_rfl) (by kernel_rfl) HS0 ?_
 iterate 2 (refine J00 rfl (by kernel_rfl) (fun K hK=>?_);go_simp;refine hK _ _ ?_;clear hK K)
 refine J03 rfl (by kernel_rfl) (fun K hK=>?_);go_simp;refine(c1 _).mono ?_;rintro e w1 ⟨rfl,m1⟩;have Hm1:Hid (More W w1):=(More.refl _).drew.trans m1;have HS1:S w1:=(HS.out _).2 (HB.out.1.more Hm1.out);clear m1
 go_simp
 refine hK _ _ HS1 ?_;clear hK K;refine J03 rfl (by kernel_rfl) (fun K hK=>?_);go_simp;refine(c2 _).mono ?_;rintro e w2 ⟨rfl,m2⟩;have Hm2:Hid (More W w2):=Hm1.out.trans m2;have HS2:S w2:=(HS.out _).2 (HB.out.1.more Hm2.out);clear m2
 go_simp
 refine hK _ _ HS2 ?_;clear hK K;have HR:Hid (Blk w2 (w.heap.size+1) #[V 0,.bool false] 137):=HB.out.2.1.more Hm2.out;have t0:=HR.out.cell (j:=0) rfl;have t1:=HR.out.cell (j:=1) rfl;have u0:=HR.out.frozen 0;have u1:=HR.out.frozen 1;refine J03 rfl (by kernel_rfl) (fun K hK=>?_);go_simp;refine hK _ _ ((HS.out _).2 (((HB.out.1.more Hm2.out).other (by omega) _ _).other (by omega) _ _)) ?_;clear hK K;refine J06 ?_;clear k0 k1 hne HS0 HS1 HS2;go_wp2;refine bodyPost_ret (by simp[results,Tryz.results131,go_sem, *]) rfl ⟨rfl,?_⟩;exact((HB.out.2.2.trans Hm2.out).setCell (by dsimp only;omega) _).setCell (by dsimp only;omega) _

theorem sum_k(k:Kn)(n:Int)(n0:-9223372036854775808<=n)(w:World):
  Calls Tryz.prog 131 #[kn k.b k.s,V n] w fun e w'=>e=.returned (kn (Kn.index k n).b (Kn.index k n).s)/\More w w':=by
 rw[Jkz k n n0];have c1:∀w:World,Calls Tryz.prog 130 #[V n] w fun e w'=>e=.returned (kn (Kn.of n).b (Kn.of n).s)/\More w w':=fun w=>J8g n w
 have c2:∀w:World,Calls Tryz.prog 133 #[V 1,kn k.b k.s,kn (Kn.of n).b (Kn.of n).s] w fun e w'=>e=.returned (kn (Kn.op 1 k (Kn.of n)).b (Kn.op 1 k (Kn.of n)).s)/\More w w':=fun w=>J5e 1 k.b (Kn.of n).b k.s (Kn.of n).s w
 obtain⟨v,hv⟩:∃v,Kn.op 1 k (Kn.of n)=v:=⟨_,rfl⟩;obtain⟨x,hx⟩:∃x,Kn.of n=x:=⟨_,rfl⟩;rw[hv]at c2 |-;rw[hx]at c1 c2;exact Jpa k.b n x.b v.b k.s x.s v.s c1 c2 w

theorem Jcp(lg:Int)(sec:Bool)(w:World):
  Calls Tryz.prog 132 #[.agg #[V lg,.bool sec]] w fun e w'=>e=.returned (kn 17 sec)/\More w w':=by
 unfold kn;go_enter Tryz.func132,Tryz.ntmps132;go_wp2;exact bodyPost_ret (by simp[results,Tryz.results132,go_sem]) rfl ⟨rfl,((More.refl _).alloc _ _).alloc _ _⟩

def oppI(c:Int):Int:=if c=1 then 2 else if c=2 then 1 else if c=3 then 4 else 3
theorem J9i(c:Int)(w:World):Calls Tryz.prog 107 #[V c] w fun e w'=>e=.returned (V (oppI c))/\w'=w:=by
 by_cases h1:c=1
 ·subst h1
  go_enter Tryz.func107,Tryz.ntmps107;go_wp2;go_ret;exact⟨rfl,rfl⟩
 by_cases h2:c=2
 ·subst h2
  go_enter Tryz.func107,Tryz.ntmps107;go_wp2;go_ret;exact⟨rfl,rfl⟩
 by_cases h3:c=3
 ·subst h3
  go_enter Tryz.func107,Tryz.ntmps107;go_wp2;go_ret;exact⟨rfl,rfl⟩
 ·have e1:(c==1)=false:=by simp[h1]
  have e2:(c==2)=false:=by simp[h2]
  have e3:(c==3)=false:=by simp[h3]
  have ho:oppI c=3:=by unfold oppI;rw[if_neg h1,if_neg h2,if_neg h3]
  rw[ho];clear ho;go_enter Tryz.func107,Tryz.ntmps107;go_wp2;go_ret;exact⟨rfl,rfl⟩
end
section
open Go
section
variable {P:Program} {ops:Array Oper} {Q:Exit->Act->World->Prop} {md:Region.Mode} {S:World->Prop}

def Jaf(md:Region.Mode)(ops:Array Oper)(j:Nat):Bool:=
 match ops[j]? with
 | none=>false
 | some o=>(List.range ops.size).all fun i=>i==j||o.after.any fun e=>Region.binds md e&&e.on==i

def AnyL(P:Program)(md:Region.Mode)(ops:Array Oper)(Q:Exit->Act->World->Prop)(S:World->Prop):Nat->Array Bool->Act->World->Prop
 | 0,l,a,w=>Region.ready md ops l=[]/\Q .normal a w
 | n+1,l,a,w=>(Region.ready md ops l=[]->Q .normal a w)/\∀i ∈ Region.ready md ops l,wpOp P ops Q i (fun a' w'=>(Jaf md ops i=false->S w')/\AnyL P md ops Q S n (l.setIfInBounds i true) a' w') a w

theorem AnyL.any:∀(n:Nat) (l:Array Bool) (a:Act) (w:World),AnyL P md ops Q S n l a w->wpAny P md ops Q n l a w
 | 0,_,_,_,h=>h
 | n+1,_,_,_,h=>⟨h.1,fun i hi=>wpOp_mono (fun a' w' h'=>AnyL.any n _ a' w' h'.2) (h.2 i hi)⟩

theorem Jm8{i j:Nat}{l:Array Bool}(hi:i ∈ Region.ready md ops l)(hj:j ∈ Region.ready md ops l)(hne:j≠i):Jaf md ops j=false:=by
 cases hb:Jaf md ops j with
 | false=>rfl
 | true=>
  exfalso
  obtain⟨_,oj,hoj,hall⟩:=mem_ready.1 hj;obtain⟨hun,oi,hoi,_⟩:=mem_ready.1 hi;unfold Jaf at hb;rw[hoj]at hb;dsimp only at hb;rw[List.all_eq_true]at hb;have h1:=hb i (List.mem_range.2 (Array.getElem?_eq_some_iff.1 hoi).1);rw[Bool.or_eq_true]at h1;rcases h1 with h1 | h1
  ·exact hne (by simpa using h1:i=j).symm
  ·obtain⟨e,he,hbe⟩:=Array.any_eq_true'.1 h1
   rw[Bool.and_eq_true,beq_iff_eq]at hbe;have h2:=hall e he hbe.1;rw[hbe.2]at h2;rcases Nat.lt_or_ge i l.size with h' | h'
   ·simp[h']at hun h2;rw[hun]at h2;cases h2
   ·simp[Array.getElem?_eq_none h']at h2

theorem AnyL.take{i:Nat}{oi:Oper}{v:Value}(hi:ops[i]?=some oi)(hs:Region.noSelect ops=true)(hQ:∀c a w,Q (.panic c) (a.put oi.dst v) w->Q (.panic c) a w):
  ∀(n:Nat) (l:Array Bool) (a:Act) (w:World),(∀j oj,ops[j]?=some oj->j≠i->l.getD j true=false->(∀e ∈ oj.after,Region.binds md e=true->e.on≠i)->oi.apart ops oj=true)->
   i ∈ Region.ready md ops l->YieldsIf P ops S oi v a->S w->AnyL P md ops Q S n (l.setIfInBounds i true) (a.put oi.dst v) w->AnyL P md ops Q S (n+1) l a w
 | n,l,a,w,hf,hr,hy,hS,H=>by
  refine⟨fun h=>absurd hr (by rw[h];simp),fun j hj=>?_⟩;by_cases hji:j=i
  ·subst hji
   exact hy.wpOp hi hS ⟨fun _=>hS,H⟩
  have hjm:=ready_mono hj hji;cases n with
  | zero=>rw[H.1]at hjm;cases hjm
  | succ n=>
   obtain⟨hjun,oj,hoj,hall⟩:=mem_ready.1 hj
   have hno:∀e ∈ oj.after,Region.binds md e=true->e.on≠i:=fun e he hb hei=>by
    have h1:=hall e he hb;have h0:=(mem_ready.1 hr).1;rw[hei]at h1;rcases Nat.lt_or_ge i l.size with h' | h'
    ·simp[h']at h0 h1;rw[h0]at h1;cases h1
    ·simp[Array.getElem?_eq_none h']at h1
   have h2:=wpOp_putIf hoj (hf j oj hoj hji hjun hno) (fun cs b=>Region.noSelect_spec hs i oi cs b hi) (fun cs b=>Region.noSelect_spec hs j oj cs b hoj) hQ hy (H.2 j hjm);have hw:=Jm8 hr hj hji;refine wpOp_mono (fun a' w' h3=>?_) h2;have hS':=h3.2.1 hw;refine⟨fun _=>hS',AnyL.take hi hs hQ n (l.setIfInBounds j true) a' w' (fun k ok hk hki hun hno'=>hf k ok hk hki ?_ hno') (ready_mono hr (Ne.symm hji)) h3.1 hS' ?_⟩
   ·by_cases e:j=k
    ·subst e;exact hjun
    ·rw[getD_set_ne true e]at hun;exact hun
   ·rw[Array.setIfInBounds_comm _ _ hji]
    exact h3.2.2

def J7t(P:Program)(ops:Array Oper)(Q:Exit->Act->World->Prop)(S:World->Prop):List (Nat × Bool)->Act->World->Prop
 | [],a,w=>Q .normal a w
 | (i,t)::rest,a,w=>
  match ops[i]? with
  | none=>False
  | some o=>if t then J2c P ops S o a w (fun a' w'=>J7t P ops Q S rest a' w') else J23 P ops Q o a w (fun a' w'=>(Jaf .any ops i=false->S w')/\(rest≠[]->S w')/\J7t P ops Q S rest a' w')

theorem J3z(hs:Region.noSelect ops=true)(hQ:∀c (a:Act) d v w,Q (.panic c) (a.put d v) w->Q (.panic c) a w):
  ∀(l:List (Nat × Bool)) (listed:Array Bool) (a:Act) (w:World),ordB .any ops l listed=true->(l≠[]->S w)->J7t P ops Q S l a w->AnyL P .any ops Q S l.length listed a w
 | [],listed,a,w,hB,_,h=>⟨by simpa[ordB]using hB,h⟩
 | (i,t)::rest,listed,a,w,hB,hS,h=>by
  replace hS:S w:=hS (by simp);simp only[ordB,Bool.and_eq_true]at hB;obtain⟨⟨ho,hc⟩,hB'⟩:=hB;obtain⟨o,ho⟩:=Option.isSome_iff_exists.1 ho;simp only[J7t,ho]at h;cases t with
  | true=>
   simp only[if_true,Bool.and_eq_true]at hc h;unfold J2c at h;have hr:i ∈ Region.ready .any ops listed:=by simpa using hc.2
   by_cases hw:Region.wanted o (yielded ops a.tmps)=true
   ·rw[if_pos hw]at h
    obtain⟨v,hv,hk⟩:=h;exact AnyL.take ho hs (fun c a w=>hQ c a _ _ w) _ _ _ _ (Region.free_spec ho hc.1) hr (.inl ⟨hw,fun w' hw'=>hv ⟨w',hw'⟩⟩) hS (J3z hs hQ rest _ _ _ hB' (fun _=>hS) hk)
   ·rw[if_neg hw]at h
    exact AnyL.take ho hs (fun c a w=>hQ c a _ _ w) _ _ _ _ (Region.free_spec ho hc.1) hr (.inr ⟨by simpa using hw,rfl⟩) hS (J3z hs hQ rest _ _ _ hB' (fun _=>hS) h)
  | false=>
   simp only[Bool.false_eq_true,if_false,beq_iff_eq]at hc h;refine⟨fun h0=>absurd (hc.symm.trans h0) (by simp),fun j hj=>?_⟩;obtain rfl:j=i:=by rw[hc]at hj;simpa using hj
   unfold J23 at h;unfold wpOp;rw[ho];show if Region.wanted o (yielded ops a.tmps)=true then _ else _
   by_cases hw:Region.wanted o (yielded ops a.tmps)=true
   ·rw[if_pos hw]at h |-
    exact .inl (Oper.wp_mono (fun a' w' h'=>⟨h'.1,J3z hs hQ rest _ _ _ hB' h'.2.1 h'.2.2⟩) h)
   ·rw[if_neg hw]at h |-
    exact⟨h.1,J3z hs hQ rest _ _ _ hB' h.2.1 h.2.2⟩

structure OrdZ(P:Program)(ops:Array Oper)(Q:Exit->Act->World->Prop)(S:World->Prop)(l:List (Nat × Bool))(a:Act)(w:World):Prop where
 out:J7t P ops Q S l a w

theorem J0z{id:Nat}{a:Act}{w:World}(l:List (Nat × Bool))(hm:P.follows .mixedOrders=true)(hs:Region.noSelect ops=true)
  (hB:(ordB .any ops l (Array.replicate ops.size false)&&l.length==ops.size)=true) (hS:S w.drew) (h:OrdZ P ops (NoPanic Q) S l a w.drew):(Code.region id ops true).wp P Q a w:=by
 rw[Bool.and_eq_true]at hB;have hl:l.length=ops.size:=by simpa using hB.2
 refine wp_region_noPanic (wp_region_any hm ?_);rw[<-hl];have:=J3z (P:=P) (S:=S) (Q:=NoPanic Q) hs (fun _ _ _ _ _ h=>h) l (Array.replicate ops.size false) a w.drew hB.1 (fun _=>hS) h.out;have:=this.any
 rwa [<-hl]at this

theorem J0i{ls:List Oper}{i:Nat}{o:Oper}{rest:List (Nat × Bool)}{a:Act}{w:World}(ho':nth ls i=some o)(hw:Region.wanted o (yielded ls.toArray a.tmps)=true)
  (h:∀K:Act->World->Prop,(∀a w,OrdZ P ls.toArray Q S rest a w->K a w)->∃v,(∀i:{ w' // S w' },(execOp a.eval o).run P i.val=.ok (.value v) i.val)/\K (a.put o.dst v) w):
  OrdZ P ls.toArray Q S ((i,true)::rest) a w:=by
 have ho:=J26 ho';refine⟨?_⟩;simp only[J7t,ho];unfold J2c;simp only[if_true];rw[if_pos hw];exact h _ (fun _ _ h=>h.out)
theorem J1z{ls:List Oper}{i:Nat}{o:Oper}{rest:List (Nat × Bool)}{a:Act}{w:World}(ho':nth ls i=some o)(hw:Region.wanted o (yielded ls.toArray a.tmps)=true)
  (h:∀K:Act->World->Prop,(∀a w,S w->OrdZ P ls.toArray Q S rest a w->K a w)->Oper.wp P o a w K Q):OrdZ P ls.toArray Q S ((i,false)::rest) a w:=by
 have ho:=J26 ho';refine⟨?_⟩;simp only[J7t,ho,Bool.false_eq_true,if_false];unfold J23;rw[if_pos hw];exact h _ (fun _ _ hs h=>⟨fun _=>hs,fun _=>hs,h.out⟩)
theorem J20{ls:List Oper}{i:Nat}{o:Oper}{a:Act}{w:World}(ho':nth ls i=some o)(hw:Region.wanted o (yielded ls.toArray a.tmps)=true)(hl:Jaf .any ls.toArray i=true)
  (h:∀K:Act->World->Prop,(∀a w,Q .normal a w->K a w)->Oper.wp P o a w K Q):OrdZ P ls.toArray Q S [(i,false)] a w:=by
 have ho:=J26 ho';refine⟨?_⟩;simp only[J7t,ho,Bool.false_eq_true,if_false];unfold J23;rw[if_pos hw];exact h _ (fun _ _ h=>⟨fun e=>absurd (hl.symm.trans e) (by simp),fun e=>absurd rfl e,h⟩)
end
end
section
open Go.RowKit
set_option linter.unusedSimpArgs false
set_option linter.unusedVariables false
set_option maxRecDepth 8000
theorem Je8:(Tryz.prog.info? 139).map (·.size)=some 16:=by kernel_rfl
theorem J1b(s:KS):(Tryz.prog.info? 139).map (·.size)=some (kv s).size:=by rw[J0d];exact Je8
theorem J3n:kv zeroK=#[V 0,.bool false,V 0,.bool false,V 0,.bool false,V 0,.bool false,V 0,.bool false,V 0,.bool false,V 0,.bool false,V 0,.bool false]:=rfl
theorem More.setRow{w w':World}(m:More w w'){g:Nat}(hg:w.heap.size<=g)(c:Array Value):More w (w'.setRow g c):=
 m.grownBy (row:=some g) ⟨rfl,rfl,rfl,by simp[World.setRow],fun k _ hk=>setRow_other _ _ _ _ (fun e=>hk (by rw[e]))⟩ (fun b hb=>by have:=Option.some.inj hb;omega)
theorem Blk.setRow{w:World}{n:Nat}{c:Array Value}{T:TypeId}(h:Blk w n c T)(d:Array Value):Blk (w.setRow n d) n d T:=setRow_heap w n c d T (0,0) h
theorem Blk.setRow_other{w:World}{n:Nat}{c:Array Value}{T:TypeId}(h:Blk w n c T){m:Nat}(hm:n≠m)(d:Array Value):Blk (w.setRow m d) n c T:=(Go.setRow_other w m n d hm).trans h

def joinU(s t:KS)(k:Nat):KS:=fun j=>if j < k then Kn.join (s j) (t j) else s j
theorem Jgv(s t:KS)(k:Nat):setK (joinU s t k) (k:Int) (Kn.join (s k) (t k))=joinU s t (k+1):=by
 funext j
 unfold setK joinU;rw[Int.toNat_natCast];by_cases e:j=k
 ·subst e;rw[if_pos rfl,if_pos (by omega)]
 ·rw[if_neg e]
  by_cases h:j < k
  ·rw[if_pos h,if_pos (by omega)]
  ·rw[if_neg h,if_neg (by omega)]

structure JB(w:World)(s t:KS)(k:Nat)(wr:World):Prop where
 a:Blk wr w.heap.size (kv (joinU s t k)) 139
 b:Blk wr (w.heap.size+1) (kv t) 139
 r:Blk wr (w.heap.size+1+1) (kv zeroK) 139
 m:More w wr
theorem JB.more{w:World}{s t:KS}{k:Nat}{wr w':World}(h:JB w s t k wr)(m:More wr w'):JB w s t k w':=⟨h.a.more m,h.b.more m,h.r.more m,h.m.trans m⟩

theorem Jci(s t:KS)(w:World):
  Calls Tryz.prog 105 #[.agg (kv s),.agg (kv t)] w fun e w'=>e=.returned (.agg (kv (fun j=>Kn.join (s j) (t j))))/\More w w':=by
 suffices hP:∀P:Ending->World->Prop,(∀w',More w w'->P (.returned (.agg (kv (fun j=>Kn.join (s j) (t j))))) w')->Calls Tryz.prog 105 #[.agg (kv s),.agg (kv t)] w P from hP _ (fun w' m=>⟨rfl,m⟩)
 intro P hP0;have HP:Hid (∀w',More w w'->P (.returned (.agg (kv (fun j=>Kn.join (s j) (t j))))) w'):=hP0;clear hP0;have Cj:Hid (∀(x y:Kn) (w:World),Calls Tryz.prog 128 #[kn x.b x.s,kn y.b y.s] w fun e w'=>e=.returned (kn (Kn.join x y).b (Kn.join x y).s)/\More w w'):=fun x y w=>Jgw x.b y.b x.s y.s w
 obtain⟨W,HW⟩:∃W:World,Hid (W=((w.alloc (.cells (kv s) 139)).alloc (.cells (kv t) 139)).alloc (.cells #[V 0,.bool false,V 0,.bool false,V 0,.bool false,V 0,.bool false,V 0,.bool false,V 0,.bool false,V 0,.bool false,V 0,.bool false] 139)):=⟨_,rfl⟩
 have HJ:Hid (JB w s t 0 W):=by
  rw[HW.out];refine⟨?_,?_,?_,((((More.refl _).alloc _ _).alloc _ _).alloc _ _)⟩
  ·rw[show joinU s t 0=s from by funext j;simp[joinU]]
   exact((Blk.last _ _ _).alloc _ _).alloc _ _
  ·exact(by simpa using Blk.last (w.alloc (.cells (kv s) 139)) (kv t) 139:Blk _ (w.heap.size+1) _ _).alloc _ _
  ·rw[J3n]
   exact(by simpa using Blk.last ((w.alloc (.cells (kv s) 139)).alloc (.cells (kv t) 139)) #[V 0,.bool false,V 0,.bool false,V 0,.bool false,V 0,.bool false,V 0,.bool false,V 0,.bool false,V 0,.bool false,V 0,.bool false] 139)
 obtain⟨c,hc⟩:∃c,kv s=c:=⟨_,rfl⟩;obtain⟨d,hd⟩:∃c,kv t=c:=⟨_,rfl⟩;have hcs:c.size=16:=hc▸J0d s;have hds:d.size=16:=hd▸J0d t;rw[hc,hd]at HW;rw[hc,hd];clear hc hd;go_enter Tryz.func105,Tryz.ntmps105;go_wp2_with (fail)
 rw[<-HW.out];clear hcs hds;go_loopg [6] 8 (fun g iv wr=>∃k:Nat,k+g=8/\iv=V k/\Hid (JB w s t k wr))
 case atStart=>exact⟨0,by omega,rfl,HJ.out⟩
 case round=>
  obtain⟨k,hkg,rfl,Hr⟩:=hrel;cases gk with
  | zero=>
   obtain rfl:k=8:=by omega
   obtain⟨C,hC⟩:∃C,kv (joinU s t 8)=C:=⟨_,rfl⟩;have hf:kv (fun j=>Kn.join (s j) (t j))=C:=by rw[<-hC];exact Jp0 (fun j hj=>by unfold joinU;rw[if_pos hj])
   have hb:=Hr.out.a;rw[hC]at hb;have hr:=Hr.out.r;have hi:(Tryz.prog.info? 139).map (·.size)=some C.size:=by rw[<-hC];exact J1b _
   have hold:(kv zeroK).size=C.size:=by rw[<-hC,J0d,J0d]
   have hone:C.all (·.oneCell')=true:=by rw[<-hC];exact J2w _
   unfold Blk at hb hr
   have HE:Hid (P (.returned (.agg C)) (wr.setRow (w.heap.size+1+1) C)):=by
    have:=HP.out (wr.setRow (w.heap.size+1+1) C) (Hr.out.m.setRow (by omega) C);rw[hf]at this;exact this
   clear hf HP HJ HW;go_wp2_with (first | (refine wpList_load_row rfl 139 (.tmp 2) rfl w.heap.size rfl 139 _ (0,0) _ hb Tryz.underlying139 rfl hi ?_) | (refine wpList_store_row rfl 139 (.tmp 4) (.tmp 19) rfl (w.heap.size+1+1) _ rfl rfl 139 _ hr hi hold hone ?_))
   exact bodyPost_ret (results_cell_row rfl _ _ (w.heap.size+1+1) 139 C (0,0) _ rfl (setRow_heap _ _ _ _ _ _ hr) Tryz.underlying139 rfl hi) rfl HE.out
  | succ g=>
   have hk8:k < 8:=by omega
   have hki:(k:Int) < 8:=by omega
   have hk63:wrap64 ((k:Int)+1)=(k:Int)+1:=by unfold wrap64;omega
   obtain⟨S,HS⟩:∃S:World->Prop,Hid (∀w',S w'↔JB w s t k w'):=⟨_,fun _=>Iff.rfl⟩;have HS0:S wr.drew:=(HS.out _).2 (Hr.out.more (More.refl _).drew);have hne:Nonempty { w' // S w' }:=⟨⟨_,HS0⟩⟩;obtain⟨xa,hxa⟩:∃x,s k=x:=⟨_,rfl⟩;obtain⟨xb,hxb⟩:∃x,t k=x:=⟨_,rfl⟩;have hju:joinU s t k k=xa:=by unfold joinU;rw[if_neg (by omega),hxa]
   have k3:∀i:{ w' // S w' },i.val.cell? ⟨w.heap.size,k*2,none⟩=some (V xa.b):=fun i=>by rw[((HS.out _).1 i.property).a.cell (kv_at _ k hk8).1,hju]
   have k4:∀i:{ w' // S w' },i.val.cell? ⟨w.heap.size,k*2+1,none⟩=some (.bool xa.s):=fun i=>by rw[((HS.out _).1 i.property).a.cell (kv_at _ k hk8).2,hju]
   have k5:∀i:{ w' // S w' },i.val.cell? ⟨w.heap.size+1,k*2,none⟩=some (V xb.b):=fun i=>by rw[((HS.out _).1 i.property).b.cell (kv_at _ k hk8).1,hxb]
   have k6:∀i:{ w' // S w' },i.val.cell? ⟨w.heap.size+1,k*2+1,none⟩=some (.bool xb.s):=fun i=>by rw[((HS.out _).1 i.property).b.cell (kv_at _ k hk8).2,hxb]
   obtain⟨v,hv⟩:∃v,Kn.join xa xb=v:=⟨_,rfl⟩;have c2:∀w:World,Calls Tryz.prog 128 #[kn xa.b xa.s,kn xb.b xb.s] w fun e w'=>e=.returned (kn v.b v.s)/\More w w':=fun w=>hv▸Cj.out xa xb w
   have Hv:Hid (Kn.join (s k) (t k)=v):=by rw[hxa,hxb];exact hv
   clear hxa hxb hv hju;obtain⟨xab,xas⟩:=xa;obtain⟨xbb,xbs⟩:=xb;obtain⟨vb,vs⟩:=v;unfold kn at c2;dsimp only at k3 k4 k5 k6 c2;go_wp2_with (fail)
   refine J0z (S:=S) [(0,true),(1,true),(2,true),(3,true),(4,true),(5,true),(6,true),(7,false),(8,true),(9,false)] (by kernel_rfl) (by kernel_rfl) (by kernel_rfl) HS0 ?_
   iterate 7 (refine J0i rfl (by kernel_rfl) (fun K hK=>?_);go_simp;refine hK _ _ ?_;clear hK K)
   refine J1z rfl (by kernel_rfl) (fun K hK=>?_);go_simp;refine(c2 _).mono ?_;rintro e w2 ⟨rfl,m2⟩;have Hm2:Hid (JB w s t k w2):=Hr.out.more ((More.refl _).drew.trans m2);have HS2:S w2:=(HS.out _).2 Hm2.out;clear m2
   go_simp
   refine hK _ _ HS2 ?_;clear hK K
   (refine J0i rfl (by kernel_rfl) (fun K hK=>?_);go_simp;refine hK _ _ ?_;clear hK K)
   have q0:=Hm2.out.a.cell (kv_at _ k hk8).1;have q1:=Hm2.out.a.cell (kv_at _ k hk8).2;have q2:=Hm2.out.a.frozen (k*2);have q3:=Hm2.out.a.frozen (k*2+1);obtain⟨w3,Hw3⟩:∃w3,Hid (w3=(w2.setCell ⟨w.heap.size,k*2,none⟩ (V vb)).setCell ⟨w.heap.size,k*2+1,none⟩ (.bool vs)):=⟨_,rfl⟩
   have HJ3:Hid (JB w s t (k+1) w3):=by
    rw[Hw3.out];refine⟨?_,(Hm2.out.b.other (by omega) _ _).other (by omega) _ _,(Hm2.out.r.other (by omega) _ _).other (by omega) _ _,(Hm2.out.m.setCell (by simp) _).setCell (by simp) _⟩;rw[<-Jgv,Hv.out];have:=Hm2.out.a.setK (k:Int) vb vs (by simpa using hk8);rw[Int.toNat_natCast]at this;exact this
   refine J20 rfl (by kernel_rfl) (by kernel_rfl) (fun K hK=>?_)
   go_simp
   rw[<-Hw3.out];refine hK _ _ ?_;clear hK K hne k3 k4 k5 k6 c2 HS0 HS2 q0 q1 q2 q3;refine NoPanic.normal ?_;go_wp2;go_roundg g
   case measure=>omega
   case rel=>exact⟨k+1,by omega,by first | rfl | simp,HJ3.out⟩
end
end Go.Proofs.YtephohhigbfafaaGreatDoor
