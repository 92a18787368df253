/-
  The texts TbPrint, DrAnswer, DrScript, DrOn, DvNum, DvSplit, Slots, one behind the other, with what is used of them.
-/
import Derived.Test.YtephohhigbfafaaGreatDoorJoined0
import Derived.Test.YtephohhigbfafaaGreatDoorJoined9
import Derived.Test.YtephohhigbfafaaGreatDoorJoined6
import Derived.Test.YtephohhigbfafaaGreatDoorJoined7
import Derived.Test.YtephohhigbfafaaGreatDoorJoined10
import Derived.WalkKit
namespace Go.Proofs.YtephohhigbfafaaGreatDoor
set_option maxHeartbeats 4000000
section
open Go.RowKit
set_option linter.unusedSimpArgs false
set_option linter.unusedVariables false
set_option maxRecDepth 8000
theorem Jl3{rl:Nat}{log:Nat->Int}{cl:Nat}{r:Int}{i:Ins}(h:InsOk rl log cl r i):¬i.op=0:=by
 intro e;unfold InsOk at h;simp[e]at h
 all_goals omega

theorem J8r(p:Prg)(l:Loc)(w:World)(hL:Lai w)(hp:PIn w p l)(hf:p.Fit):
  Calls Tryz.prog 17 #[.agg #[.slice l.ra p.rl l.rc,.slice l.ca p.cl l.cc]] w fun e w'=>More w w'/\((p.Ok 8000 10/\e=.returned (.tuple #[.string (txt (textL p)),V 0]))\/(¬p.Ok 8000 10/\e=.returned (.tuple #[.string (txt []),V 2]))):=by
 suffices hP:∀P:Ending->World->Prop,(∀w',More w w'->p.Ok 8000 10->P (.returned (.tuple #[.string (txt (textL p)),V 0])) w')->(∀w',More w w'->¬p.Ok 8000 10->P (.returned (.tuple #[.string ⟨#[]⟩,V 2])) w')->Calls Tryz.prog 17 #[.agg #[.slice l.ra p.rl l.rc,.slice l.ca p.cl l.cc]] w P from hP _ (fun w' m ok=>⟨m,.inl ⟨ok,rfl⟩⟩) (fun w' m ok=>⟨m,.inr ⟨ok,rfl⟩⟩)
 intro P hP1 hP2;have HP1:Hid (∀w',More w w'->p.Ok 8000 10->P (.returned (.tuple #[.string (txt (textL p)),V 0])) w'):=hP1;have HP2:Hid (∀w',More w w'->¬p.Ok 8000 10->P (.returned (.tuple #[.string ⟨#[]⟩,V 2])) w'):=hP2;have HL:Hid (Lai w):=hL;have CH:Hid (∀w1,More w w1->Calls Tryz.prog 38 #[.agg #[.slice l.ra p.rl l.rc,.slice l.ca p.cl l.cc]] w1 fun e w'=>∃r:Bool,e=.returned (.bool r)/\(r=true↔p.Ok 8000 10)/\More w1 w'):=fun w1 m=>J3u p l w1 (hp.more m)
 have CR:Hid (∀k,k < p.rl->∀w1,Lai w1->Calls Tryz.prog 39 #[.agg #[V (p.log k),.bool (p.sec k)]] w1 fun e w'=>∃d:ByteArray,e=.returned (.string d)/\d++txt [10]=txt (regL (p.log k) (p.sec k))/\d.size<=36/\More w1 w'):=fun k hk w1 h=>by
  refine(Jbk (p.log k) (p.sec k) (hf.log k hk) w1 h).mono ?_;rintro e w' ⟨rfl,m⟩;refine⟨_,rfl,by rw[J1k,Jg8],?_,m⟩;have h1:=J5u (p.log k) (p.sec k);rw[<-Jg8,List.length_append]at h1;rw[J0e];omega
 have CI:Hid (p.Ok 8000 10->∀k,k < p.cl->∀w1,Lai w1->Calls Tryz.prog 40 #[.agg #[V (p.ins k).op,V (p.ins k).a,V (p.ins k).b,V (p.ins k).c,V (p.ins k).n]] w1 fun e w'=>∃d:ByteArray,e=.returned (.string d)/\d++txt [10]=txt (lineL (p.ins k))/\d.size<=240/\More w1 w'):=fun ok k hk w1 h=>
  Jb4 (p.ins k) ⟨(hf.ins k hk).2.1,(hf.ins k hk).2.2.1,(hf.ins k hk).2.2.2.1,(hf.ins k hk).2.2.2.2⟩ (Jl6 (Jip (ok.2.2.2 k hk)) (Jl3 (ok.2.2.2 k hk))) w1 h
 have HR:Hid (∀w1:World,More w w1->RegsAt w1 l.rb l.ro p.rl p.log p.sec/\CodeAt w1 l.cb l.co p.cl p.ins):=fun w1 m1=>⟨hp.regs.more m1,hp.code.more m1⟩
 have Hra:Hid (0 < p.rl->l.ra=some ⟨l.rb,l.ro,none⟩):=hp.hr;have Hca:Hid (0 < p.cl->l.ca=some ⟨l.cb,l.co,none⟩):=hp.hc;have Hn:Hid (p.Ok 8000 10->p.rl<=6/\0 < p.cl/\p.cl<=8000):=fun ok=>⟨ok.1.1,by have:=ok.2.1;omega,ok.2.2.1⟩
 clear hP1 hP2 hL hp hf;obtain⟨ra,Hra1⟩:∃x,Hid (l.ra=x):=⟨_,rfl⟩;obtain⟨rl,Hrl⟩:∃x,Hid (p.rl=x):=⟨_,rfl⟩;obtain⟨rc,Hrc⟩:∃x,Hid (l.rc=x):=⟨_,rfl⟩;obtain⟨rb,Hrb⟩:∃x,Hid (l.rb=x):=⟨_,rfl⟩;obtain⟨ro,Hro⟩:∃x,Hid (l.ro=x):=⟨_,rfl⟩;obtain⟨ca,Hca1⟩:∃x,Hid (l.ca=x):=⟨_,rfl⟩;obtain⟨cb,Hcb⟩:∃x,Hid (l.cb=x):=⟨_,rfl⟩;obtain⟨co,Hco⟩:∃x,Hid (l.co=x):=⟨_,rfl⟩;obtain⟨cc,Hcc⟩:∃x,Hid (l.cc=x):=⟨_,rfl⟩;obtain⟨cl,Hcl⟩:∃x,Hid (p.cl=x):=⟨_,rfl⟩;rw[Hra1.out,Hrl.out,Hrc.out,Hca1.out,Hcc.out,Hcl.out]at CH |-;rw[Hrl.out,Hrb.out,Hro.out,Hcb.out,Hco.out,Hcl.out]at HR;rw[Hra1.out,Hrl.out,Hrb.out,Hro.out]at Hra;rw[Hca1.out,Hcl.out,Hcb.out,Hco.out]at Hca;rw[Hrl.out]at CR;rw[Hcl.out]at CI;rw[Hrl.out,Hcl.out]at Hn;have HT:Hid (textL p=regsL p rl++insL_ p cl):=by show _=_;rw[<-Hrl.out,<-Hcl.out];rfl
 obtain⟨W,HW⟩:∃w_:World,Hid (w_=w.alloc (.cells #[.slice ra rl rc,.slice ca cl cc] 28)):=⟨_,rfl⟩;have HmW:Hid (More w W):=HW.out▸(More.refl _).alloc _ _;have HbW:Hid (Blk W w.heap.size #[.slice ra rl rc,.slice ca cl cc] 28):=HW.out▸Blk.last _ _ _;go_enter Tryz.func17,Tryz.ntmps17;go_wp2_with (fail)
 rw[<-HW.out];refine(CH.out W HmW.out).mono ?_;rintro e w1 ⟨r,rfl,hr,m1⟩;have Hm1:Hid (More w w1):=HmW.out.trans m1;have Hb1:Hid (Blk w1 w.heap.size #[.slice ra rl rc,.slice ca cl cc] 28):=HbW.out.more m1;have HO:=J02 hr;clear m1 hr CH HW HmW HbW;cases r with
 | false=>
  have HE:=J02 (HP2.out w1 Hm1.out (fun ok=>absurd (HO.out.2 ok) (by simp)));clear HP1 HP2;go_wp2;exact HE.out
 | true=>
  have Hok:Hid (p.Ok 8000 10):=HO.out.1 rfl;obtain⟨h6,hc0,hc8⟩:=Hn.out Hok.out;have CI1:=J02 (CI.out Hok.out);obtain rfl:=Hca.out hc0;have HP:=J02 (fun w' m=>HP1.out w' m Hok.out);rw[HT.out]at HP;clear HP1 HP2 CI HO Hn Hok Hca HT;have b0:w1.cell? ⟨w.heap.size,0,none⟩=some (.slice ra rl rc):=Hb1.out.cell rfl;have lt0:=Hb1.out.lt;obtain⟨W2,HW2⟩:∃w_:World,Hid (w_=w1.alloc (.cells #[.pointer none,.slice none 0 0] 67)):=⟨_,rfl⟩;have HB2:Hid (Bld W2 w1.heap.size w1.heap.size []):=HW2.out▸J3r w1;have Hm2:Hid (More w1 W2):=HW2.out▸(More.refl _).alloc _ _;go_wp2_with (fail)
  rw[<-HW2.out];obtain⟨B,HB⟩:∃x,Hid (w1.heap.size=x):=⟨_,rfl⟩
  have CWr:Hid (∀(l m:List UInt8) (d:ByteArray) w',d++txt [10]=txt m->Bld w' B B l->l.length+m.length<=140737488355328->B<=w'.heap.size->Calls Tryz.prog 20 #[.pointer (some ⟨B,0,none⟩),.string (d++⟨#[10]⟩)] w' fun e w''=>∃n:Int,e=.returned (.tuple #[V n,.nilIface])/\Bld w'' B B (l++m)/\Below B w' w''):=fun l m d w' hd hb hl hB=>by
   have hd':d++⟨#[10]⟩=txt m:=hd;rw[hd'];exact(J1d B B l m w' hb hl hB).mono (fun e w'' h=>⟨_,h.1,h.2.1,h.2.2.1⟩)
  rw[HB.out]at HB2 |-
  have HM:Hid (∀wr,Below B w1 wr->More w wr/\B<=wr.heap.size):=fun wr m=>by
   have m':More w1 wr:=by show Below w1.heap.size w1 wr;rw[HB.out];exact m
   exact⟨Hm1.out.trans m',by rw[<-HB.out];exact m'.size⟩
  have Hb1':Hid (∀wr,Below B w1 wr->Blk wr w.heap.size #[.slice ra rl rc,.slice (some ⟨cb,co,none⟩) cl cc] 28):=fun wr m=>Hb1.out.more (by show Below w1.heap.size w1 wr;rw[HB.out];exact m)
  have HW0:Hid (Below B w1 W2):=HB.out▸Hm2.out;go_loopg [15] rl (fun g kv wr=>∃k:Nat,k+g=rl/\kv=V k/\Hid (Bld wr B B (regsL p k)/\Below B w1 wr))
  case atStart=>exact⟨0,by omega,rfl,HB2.out,HW0.out⟩
  case round=>
   obtain⟨k,hkg,rfl,Hr⟩:=hrel;cases gk with
   | zero=>
    obtain rfl:k=rl:=by omega
    have b1:wr.cell? ⟨w.heap.size,1,none⟩=some (.slice (some ⟨cb,co,none⟩) cl cc):=(Hb1'.out wr Hr.out.2).cell rfl;clear CR;go_wp2_with (fail)
    go_loopg [27] cl (fun g kv wr=>∃j:Nat,j+g=cl/\kv=V j/\Hid (Bld wr B B (regsL p k++insL_ p j)/\Below B w1 wr))
    case atStart=>exact⟨0,by omega,rfl,by simpa[insL_]using Hr.out.1,Hr.out.2⟩
    case round=>
     obtain⟨j,hjg,rfl,Hr2⟩:=hrel;clear b1;cases gk with
     | zero=>
      obtain rfl:j=cl:=by omega
      have CS:=J02 (J29 B B _ wr Hr2.out.1 (HM.out wr Hr2.out.2).2);obtain⟨os,Hos⟩:∃x,Hid (txt (regsL p k++insL_ p j)=x):=⟨_,rfl⟩;rw[Hos.out]at CS HP;clear CI1;go_wp2_with (fail)
      refine CS.out.mono ?_;rintro e w3 ⟨rfl,_,b3,_⟩;have HE:=J02 (HP.out w3 (HM.out w3 (Hr2.out.2.trans b3)).1);clear b3 HP;go_wp2;exact HE.out
     | succ g=>
      have hj:j < cl:=by omega
      have hji:(j:Int) < cl:=by omega
      have hj63:wrap64 ((j:Int)+1)=(j:Int)+1:=by unfold wrap64;omega
      obtain⟨q0,q1,q2,q3,q4⟩:=(HR.out wr (HM.out wr Hr2.out.2).1).2 j hj;have CX:=J02 (CI1.out j hj)
      have Hnx:Hid (∀w',Bld w' B B (regsL p k++insL_ p j++lineL (p.ins j))->Below B w1 w'->∃j':Nat,j'+g=cl/\Value.int .i64 ((j:Int)+1)=V j'/\Hid (Bld w' B B (regsL p k++insL_ p j')/\Below B w1 w')):=fun w' h m=>by
       refine⟨j+1,by omega,by simp,?_,m⟩;rw[insL_,<-List.append_assoc];exact h
      have Hlen:Hid ((regsL p k++insL_ p j).length+(lineL (p.ins j)).length<=140737488355328):=by
       have h1:=J2u p k;have h2:=J3f p j;have h3:=J7i (p.ins j);show _<=_;rw[List.length_append];omega
      obtain⟨⟨op,a,b,c,n⟩,HI⟩:∃x,Hid (p.ins j=x):=⟨_,rfl⟩;rw[HI.out]at q0 q1 q2 q3 q4 CX Hnx Hlen;dsimp only at q0 q1 q2 q3 q4 CX;obtain⟨W3,HW3⟩:∃w_:World,Hid (w_=wr.alloc (.cells #[V op,V a,V b,V c,V n] 41)):=⟨_,rfl⟩;have Hm3:Hid (More wr W3):=HW3.out▸(More.refl _).alloc _ _;have HL3:Hid (Lai W3):=HL.out.more ((HM.out wr Hr2.out.2).1.trans Hm3.out);clear CI1 HP;go_wp2_with (fail)
      rw[<-HW3.out];refine(CX.out W3 HL3.out).mono ?_;rintro e w3 ⟨d,rfl,hd,hdz,m3⟩;have Hm4:Hid (More wr w3):=Hm3.out.trans m3;have CZ:=J02 (CWr.out _ _ d w3 hd (J42 Hr2.out.1 Hm4.out) Hlen.out ((HM.out w3 (Hr2.out.2.trans (Below.mono Hm4.out (HM.out wr Hr2.out.2).2))).2));clear m3 hd CX q0 q1 q2 q3 q4 CWr;go_wp2_with (fail)
      refine CZ.out.mono ?_;rintro e w4 ⟨n4,rfl,h4,b4⟩;have HN:=J02 (Hnx.out w4 h4 ((Hr2.out.2.trans (Below.mono Hm4.out (HM.out wr Hr2.out.2).2)).trans b4));clear CZ Hnx h4 b4;go_wp2;go_roundg g
      case measure=>omega
      case rel=>exact HN.out
   | succ g=>
    have hk:k < rl:=by omega
    have hki:(k:Int) < rl:=by omega
    have hk63:wrap64 ((k:Int)+1)=(k:Int)+1:=by unfold wrap64;omega
    obtain rfl:=Hra.out (by omega);obtain⟨q0,q1⟩:=(HR.out wr (HM.out wr Hr.out.2).1).1 k hk;have CX:=J02 (CR.out k hk);have Hnx:Hid (∀w',Bld w' B B (regsL p k++regL (p.log k) (p.sec k))->Below B w1 w'->∃k':Nat,k'+g=rl/\Value.int .i64 ((k:Int)+1)=V k'/\Hid (Bld w' B B (regsL p k')/\Below B w1 w')):=fun w' h m=>⟨k+1,by omega,by simp,h,m⟩
    have Hlen:Hid ((regsL p k).length+(regL (p.log k) (p.sec k)).length<=140737488355328):=by
     have h1:=J2u p k;have h2:=J5u (p.log k) (p.sec k);show _<=_;omega
    obtain⟨lg,Hlg⟩:∃x,Hid (p.log k=x):=⟨_,rfl⟩;obtain⟨sec,Hsec⟩:∃x,Hid (p.sec k=x):=⟨_,rfl⟩;rw[Hlg.out]at q0 CX Hnx Hlen;rw[Hsec.out]at q1 CX Hnx Hlen;obtain⟨W3,HW3⟩:∃w_:World,Hid (w_=wr.alloc (.cells #[V lg,.bool sec] 76)):=⟨_,rfl⟩;have Hm3:Hid (More wr W3):=HW3.out▸(More.refl _).alloc _ _;have HL3:Hid (Lai W3):=HL.out.more ((HM.out wr Hr.out.2).1.trans Hm3.out);clear CI1 HP CR;go_wp2_with (fail)
    rw[<-HW3.out];refine(CX.out W3 HL3.out).mono ?_;rintro e w3 ⟨d,rfl,hd,hdz,m3⟩;have Hm4:Hid (More wr w3):=Hm3.out.trans m3;have CZ:=J02 (CWr.out _ _ d w3 hd (J42 Hr.out.1 Hm4.out) Hlen.out ((HM.out w3 (Hr.out.2.trans (Below.mono Hm4.out (HM.out wr Hr.out.2).2))).2));clear m3 hd CX q0 q1 CWr;go_wp2_with (fail)
    refine CZ.out.mono ?_;rintro e w4 ⟨n4,rfl,h4,b4⟩;have HN:=J02 (Hnx.out w4 h4 ((Hr.out.2.trans (Below.mono Hm4.out (HM.out wr Hr.out.2).2)).trans b4));clear CZ Hnx h4 b4;go_wp2;go_roundg g
    case measure=>omega
    case rel=>exact HN.out
theorem SIn.spar{w w':World}{sa:Option Addr}{sb so:Nat}{L:List Int}(h:SIn w sa sb so L)(ht:0 < L.length->OfType w (some sb) 3)(s:Spar w w'):SIn w' sa sb so L:=⟨h.ha,fun j c hc=>by
 have h0:0 < L.length:=Nat.lt_of_le_of_lt (Nat.zero_le _) (List.getElem?_eq_some_iff.1 hc).1;obtain⟨cur,fz,q⟩:=ht h0 sb rfl
 have q':=s sb _ q (fun c t f e=>by
  injection e with _ k _
  subst k;exact not5 (by decide) (by decide) (by decide) (by decide) (by decide))
 have:=h.cells j c hc;rw[cell_of_row _ _ _ _ _ _ q]at this;rw[cell_of_row _ _ _ _ _ _ q'];exact this⟩
theorem OfType.more{w w':World}{row:Option Nat}{T:TypeId}(h:OfType w row T)(m:More w w'):OfType w' row T:=fun r e=>by
 obtain⟨cur,fz,q⟩:=h r e;exact⟨cur,fz,J1r m q⟩
theorem J8y{p:Prg}{l:KV}:∀n a,(scanK p l n a).1=0->scanK p l n a=(0,0)
 | 0,a,_=>rfl
 | n+1,a,h=>by
  rw[scanK]at h |-;cases e:l a with
  | none=>
   rw[e]at h;exact J8y n (a+1) h
  | some s=>
   rw[e]at h;dsimp only at h |-;by_cases q:J36 p a s=0
   ·rw[if_pos q]at h |-;exact J8y n (a+1) h
   ·rw[if_neg q]at h;exact absurd h q
theorem Jdf{p:Prg}{f:Int × Int}(h:Told p f)(h0:f.1=0):f=(0,0):=by
 rcases h with⟨_,rfl⟩ | ⟨_,l,_,rfl⟩
 ·exact absurd h0 (by decide)
 ·exact J8y _ _ h0
theorem SIn.tail{w:World}{vb vc:Nat}{f:Int}{l:List Int}(h:SIn w (some ⟨vb,0,none⟩) vb 0 (f::l))(hc:l.length+1<=vc):SIn w (if vc=1 then some ⟨vb,0,none⟩ else some ⟨vb,1,none⟩) vb 1 l:=by
 refine⟨fun h0=>by rw[if_neg (by omega)],fun j c hj=>?_⟩;have:=h.cells (j+1) c (by simpa using hj);rw[show(0:Nat)+(j+1)=1+j by omega]at this;exact this
theorem Jm5{h:List UInt8}{L:List Int}{x y:Sta}{a:List UInt8}(k:WordTo h (L.take 2002) x y a)(w:Wf x):WordTo h L x y a:=by
 by_cases hL:2002 < L.length
 ·exact k.long w hL
 ·rw[List.take_of_length_le (by omega)]at k;exact k
theorem Jof{h:List UInt8}{L:List Int}{x:Sta}(n:¬Jbz h L.length):WordTo h L x x [63]:=by
 have no:No x x [63]:=⟨rfl,rfl⟩;have ne:¬L.length=0->¬L=[]:=fun h e=>h (by rw[e];rfl)
 by_cases hw:J4d h
 ·rcases hw with rfl | rfl | rfl | rfl | rfl | rfl | rfl | rfl | rfl | rfl
  ·exact J4t (.inr ⟨fun e=>n (.inr (.inr (.inl ⟨rfl,e⟩))),no⟩)
  ·exact J6u (.inr ⟨fun⟨r,l,e,_⟩=>n (.inr (.inr (.inr (.inr ⟨.inl rfl,by rw[e];simp⟩)))),no⟩)
  ·exact J6z (.inr ⟨fun⟨r,e,_⟩=>n (.inr (.inl ⟨.inr rfl,by rw[e];rfl⟩)),no⟩)
  ·exact J9v (.inr ⟨fun e=>n (.inr (.inr (.inr (.inl ⟨rfl,e.1⟩)))),no⟩)
  ·exact Jd5 (.inr ⟨fun e=>n (.inr (.inl ⟨.inl rfl,e⟩)),no⟩)
  ·refine J64 (.inr ⟨?_,no⟩)
   cases L with
   | nil=>rfl
   | cons a l=>exact absurd (.inr (.inr (.inr (.inr ⟨.inr rfl,by simp⟩)))) n
  ·exact J68 (.inr ⟨ne (fun e=>n (.inl ⟨.inl rfl,e⟩)),no⟩)
  ·exact J6w (.inr ⟨ne (fun e=>n (.inl ⟨.inr (.inl rfl),e⟩)),no⟩)
  ·exact J79 (.inr ⟨ne (fun e=>n (.inl ⟨.inr (.inr (.inr rfl)),e⟩)),no⟩)
  ·exact J6y (.inr ⟨ne (fun e=>n (.inl ⟨.inr (.inr (.inl rfl)),e⟩)),no⟩)
 ·exact J80 hw no
theorem len1{L:List Int}(h:L.length=1):∃a,L=[a]:=by
 match L,h with
 | [a],_=>exact⟨a,rfl⟩
theorem len2{L:List Int}(h:L.length=2):∃a b,L=[a,b]:=by
 match L,h with
 | [a,b],_=>exact⟨a,b,rfl⟩
theorem len5{L:List Int}(h:L.length=5):∃a b c d e,L=[a,b,c,d,e]:=by
 match L,h with
 | [a,b,c,d,e],_=>exact⟨a,b,c,d,e,rfl⟩
theorem len0{L:List Int}(h:L.length=0):L=[]:=List.eq_nil_of_length_eq_zero h

theorem Jc4{B G:Nat}{x:Sta}{rv cv mv:Value}(l:List UInt8)(w:World)(h0:Dp B G x rv cv mv w)(hw:Wf x)(HL0:LaiG G w)(hl:l.length < 4611686018427387904):
  Calls Tryz.prog 21 #[.pointer (some ⟨G,0,none⟩),.string (txt l)] w fun e w'=>∃y a,e=.returned (.string (txt a))/\SLineTo x l y a/\DAns B G w y w':=by
 suffices hP:∀P:Ending->World->Prop,(∀y a w',SLineTo x l y a->DAns B G w y w'->P (.returned (.string (txt a))) w')->Calls Tryz.prog 21 #[.pointer (some ⟨G,0,none⟩),.string (txt l)] w P from hP _ (fun y a w' h m=>⟨y,a,rfl,h,m⟩)
 intro P hP0;have HP:Hid (∀y a w',SLineTo x l y a->DAns B G w y w'->P (.returned (.string (txt a))) w'):=hP0;have HL:Hid (LaiG G w):=HL0;have Hw:Hid (Wf x):=hw;have H:Hid (Dp B G x rv cv mv w):=h0;have CR:=J02 (Jhj l w HL0.toLaiE hl);obtain⟨ss,Hss⟩:∃z,Hid (txt l=z):=⟨_,rfl⟩;rw[Hss.out]at CR |-;clear hP0 HL0 hw h0;go_enter Tryz.func21,Tryz.ntmps21;go_wp2_with (fail)
 refine CR.out.mono ?_;rintro e w1 ⟨d,va,n,vc,ok,rfl,hr,m1⟩;have Hm1:=J02 m1;have HR:=J02 hr;clear CR hr m1;cases ok with
 | false=>
  have HE:Hid (P (.returned (.string ⟨#[63]⟩)) w1):=by
   rcases HR.out with⟨q,_⟩ | ⟨_,k,fs,e,no⟩
   ·cases q
   ·exact HP.out x [63] w1 ⟨k,fs,e,.inr ⟨no,rfl,rfl⟩⟩ (DAns.same H.out Hm1.out)
  clear HP HR;go_wp2;exact HE.out
 | true=>
  obtain⟨h,fs,L0,vb,hs,hnum,hd,hn,hcap,hsin,hty⟩:∃h fs L vb,J09 32 l=h::fs/\NumsR fs L/\d=txt h/\n=(L.take 2002).length/\n<=vc/\SIn w1 va vb 0 (L.take 2002)/\(0 < n->OfType w1 (some vb) 3):=by
   rcases HR.out with⟨_,q⟩ | ⟨q,_⟩
   ·exact q
   ·cases q
  have HQ:Hid (∀y a w',WordTo h (L0.take 2002) x y a->DAns B G w1 y w'->P (.returned (.string (txt a))) w'):=fun y a w' k da=>HP.out y a w' ⟨h,fs,hs,.inl ⟨L0,hnum,Jm5 k Hw.out⟩⟩ ⟨da.ply,(Below.mono Hm1.out (Nat.le_of_lt H.out.blk.lt)).trans da.low,(Spar.of Hm1.out).trans da.spar⟩
  have Hbn:Hid (∀v ∈ L0.take 2002,-999999<=v/\v<=999999):=fun v hv=>hnum.2 v (List.mem_of_mem_take hv)
  have H1:Hid (Dp B G x rv cv mv w1):=H.out.more Hm1.out;have HL1:Hid (LaiG G w1):=HL.out.low (Below.mono Hm1.out (Nat.le_of_lt H.out.blk.lt));obtain⟨L,HL'⟩:∃L,Hid (L0.take 2002=L):=⟨_,rfl⟩;rw[HL'.out]at HQ hsin hn Hbn;have hn2:n<=2002:=by have:=congrArg List.length HL'.out;simp at this;omega
  have HSI:Hid (SIn w1 va vb 0 L/\(0 < L.length->OfType w1 (some vb) 3)/\n<=vc/\n=L.length):=⟨hsin,fun q=>hty (by omega),hcap,hn⟩;have CT:=J02 (Jez h n w1);rw[<-hd]at CT;have Hd:=J02 hd;have Hn:=J02 hn;clear HP HR hs hnum hsin hty hcap HL' H HL Hm1 hd hn;go_wp2_with (fail)
  refine CT.out.mono ?_;rintro e w2 ⟨b,rfl,hb,rfl⟩;have HB:=J02 hb;clear CT hb;cases b with
  | false=>
   have HE:Hid (P (.returned (.string ⟨#[63]⟩)) w2):=HQ.out x [63] w2 (Jof (fun q=>absurd (HB.out.2 (by rw[Hn.out];exact q)) (by simp))) (DAns.same H1.out (More.refl _));clear HQ HB;go_wp2;exact HE.out
  | true=>
   have ht:Jbz h n:=HB.out.1 rfl;obtain⟨lp,Hrv,Hcv,hpin⟩:=H1.out.pin;obtain⟨gs,hgs⟩:=H1.out.mem;obtain⟨ml,Hmv,hraw⟩:=hgs.raw;have HPI:Hid (rv=.slice lp.ra x.rs.length lp.rc/\cv=.slice lp.ca x.cs.length lp.cc/\mv=.slice ml.ma x.ms.length ml.mc/\PIn w2 x.prg lp/\MRaw w2 x.mem ml):=⟨Hrv,Hcv,Hmv,hpin,hraw⟩;clear Hrv Hcv hpin gs hgs Hmv hraw HB;rcases ht with⟨hh,rfl⟩ | ⟨hh,rfl⟩ | ⟨hh,rfl⟩ | ⟨hh,rfl⟩ | ⟨hh,hn1⟩
   ·obtain rfl:=len0 Hn.out.symm
    rcases hh with rfl | rfl | rfl | rfl
    ·have hdc:d=⟨#[99,104,101,99,107]⟩:=Hd.out
     subst hdc;clear Hd;have CX:Hid (Calls Tryz.prog 14 #[.agg #[.slice lp.ra x.rs.length lp.rc,.slice lp.ca x.cs.length lp.cc]] w2 fun e w'=>∃f:Int × Int,Told x.prg f/\e=.returned (.agg #[V f.1,V f.2])/\More w2 w'):=J6t x.prg lp w2 HPI.out.2.2.2.1 Hw.out.fit;obtain⟨ra,Hra⟩:∃z,Hid (lp.ra=z):=⟨_,rfl⟩;obtain⟨rc,Hrc⟩:∃z,Hid (lp.rc=z):=⟨_,rfl⟩;obtain⟨rl,Hrl⟩:∃z,Hid (x.rs.length=z):=⟨_,rfl⟩;obtain⟨ca,Hca⟩:∃z,Hid (lp.ca=z):=⟨_,rfl⟩;obtain⟨cc,Hcc⟩:∃z,Hid (lp.cc=z):=⟨_,rfl⟩;obtain⟨cl,Hcl⟩:∃z,Hid (x.cs.length=z):=⟨_,rfl⟩;rw[Hra.out,Hrc.out,Hrl.out,Hca.out,Hcc.out,Hcl.out]at CX;have b0:w2.cell? ⟨G,0,none⟩=some (.slice ra rl rc):=by have:=H1.out.blk.cell (j:=0) rfl;rw[this,HPI.out.1,Hra.out,Hrc.out,Hrl.out];rfl
     have b1:w2.cell? ⟨G,1,none⟩=some (.slice ca cl cc):=by have:=H1.out.blk.cell (j:=1) rfl;rw[this,HPI.out.2.1,Hca.out,Hcc.out,Hcl.out];rfl
     go_wp2_with (fail)
     refine CX.out.mono ?_;rintro e w3 ⟨⟨f1,f2⟩,ht,rfl,m3⟩;have hb:=ht.b64 Hw.out.cl;have CY:=J02 (J9e f1 f2 w3 (HL1.out.toLai.more m3) hb.1 hb.2);have HE:Hid (∀w',More w2 w'->P (.returned (.string (txt (fauL (f1,f2) okW)))) w'):=fun w' m=>HQ.out x _ w' (J68 (.inl ⟨rfl,rfl,(f1,f2),ht,rfl⟩)) (DAns.same H1.out m)
     obtain⟨R,HRR⟩:∃R,Hid (txt (fauL (f1,f2) okW)=R):=⟨_,rfl⟩;rw[HRR.out]at CY HE;have Hm3:=J02 m3;clear CX ht hb m3 HRR HQ;go_wp2_with (fail)
     refine CY.out.mono ?_;rintro e w4 ⟨rfl,m4⟩;have HF:=J02 (HE.out w4 (Hm3.out.trans m4));clear CY m4 HE;go_wp2;exact HF.out
    ·have hdc:d=⟨#[104,97,114,100]⟩:=Hd.out
     subst hdc;clear Hd;have CX:=J02 (Jce w2 H1.out Hw.out HL1.out);go_wp2_with (fail)
     refine CX.out.mono ?_;rintro e w3 ⟨y,r,rfl,ht,da⟩;have HF:=J02 (HQ.out y r w3 (J6w ht) da);obtain⟨R,HRR⟩:∃R,Hid (txt r=R):=⟨_,rfl⟩;rw[HRR.out]at HF |-;clear CX ht da HQ;go_wp2;exact HF.out
    ·have hdc:d=⟨#[108,111,97,100]⟩:=Hd.out
     subst hdc;clear Hd
     have CX:Hid (Calls Tryz.prog 18 #[.agg #[.slice lp.ra x.rs.length lp.rc,.slice lp.ca x.cs.length lp.cc]] w2 fun e w'=>∃(f:Int × Int) (a:Option Addr) (k c:Nat),Told x.prg f/\e=.returned (.tuple #[.slice a k c,.agg #[V f.1,V f.2]])/\(f.1=0->k=(fitP (hardP x.prg)).cl)/\k < 4611686018427387904/\More w2 w'):=by
      refine(J9z x.prg lp w2 HPI.out.2.2.2.1 Hw.out.fit).mono ?_;rintro e w' ⟨f,ht,m,⟨h0,g,c,rfl,_⟩ | ⟨h0,rfl⟩⟩
      ·have ok:=(ht.ok h0).1
       have hf:=Jdf ht h0;exact⟨f,_,_,_,ht,by rw[hf],fun _=>rfl,by have:=(Jii ok Hw.out.fit).2.2.1;omega,m⟩
      ·exact⟨f,none,0,0,ht,rfl,fun q=>absurd q h0,by decide,m⟩
     obtain⟨ra,Hra⟩:∃z,Hid (lp.ra=z):=⟨_,rfl⟩;obtain⟨rc,Hrc⟩:∃z,Hid (lp.rc=z):=⟨_,rfl⟩;obtain⟨rl,Hrl⟩:∃z,Hid (x.rs.length=z):=⟨_,rfl⟩;obtain⟨ca,Hca⟩:∃z,Hid (lp.ca=z):=⟨_,rfl⟩;obtain⟨cc,Hcc⟩:∃z,Hid (lp.cc=z):=⟨_,rfl⟩;obtain⟨cl,Hcl⟩:∃z,Hid (x.cs.length=z):=⟨_,rfl⟩;rw[Hra.out,Hrc.out,Hrl.out,Hca.out,Hcc.out,Hcl.out]at CX;have b0:w2.cell? ⟨G,0,none⟩=some (.slice ra rl rc):=by have:=H1.out.blk.cell (j:=0) rfl;rw[this,HPI.out.1,Hra.out,Hrc.out,Hrl.out];rfl
     have b1:w2.cell? ⟨G,1,none⟩=some (.slice ca cl cc):=by have:=H1.out.blk.cell (j:=1) rfl;rw[this,HPI.out.2.1,Hca.out,Hcc.out,Hcl.out];rfl
     go_wp2_with (fail)
     refine CX.out.mono ?_;rintro e w3 ⟨⟨f1,f2⟩,a3,k3,c3,ht,rfl,hk,hk3,m3⟩;have hb:=ht.b64 Hw.out.cl;have CY:=J02 (Jar a3 k3 c3 f1 f2 w3 (HL1.out.toLai.more m3) hb.1 hb.2 hk3)
     have HE:Hid (∀w',More w2 w'->P (.returned (.string (txt (fauL (f1,f2) (ansL okW [(k3:Int)]))))) w'):=fun w' m=>HQ.out x _ w' (J6y (.inl ⟨rfl,rfl,(f1,f2),ht,by
      unfold fauL;by_cases h0:f1=0
      ·rw[if_pos h0,if_pos h0,hk h0]
      ·rw[if_neg h0,if_neg h0]⟩)) (DAns.same H1.out m)
     obtain⟨R,HRR⟩:∃R,Hid (txt (fauL (f1,f2) (ansL okW [(k3:Int)]))=R):=⟨_,rfl⟩;rw[HRR.out]at CY HE;have Hm3:=J02 m3;clear CX ht hb m3 HRR HQ hk hk3;go_wp2_with (fail)
     refine CY.out.mono ?_;rintro e w4 ⟨rfl,m4⟩;have HF:=J02 (HE.out w4 (Hm3.out.trans m4));clear CY m4 HE;go_wp2;exact HF.out
    ·have hdc:d=⟨#[116,101,120,116]⟩:=Hd.out
     subst hdc;clear Hd
     have CX:Hid (Calls Tryz.prog 17 #[.agg #[.slice lp.ra x.rs.length lp.rc,.slice lp.ca x.cs.length lp.cc]] w2 fun e w'=>∃(s:ByteArray) (c:Int),e=.returned (.tuple #[.string s,V c])/\((x.prg.Ok 8000 10/\s=txt (textL x.prg)/\c=0)\/(¬x.prg.Ok 8000 10/\s=txt []/\c=2))/\More w2 w'):=by
      refine(J8r x.prg lp w2 HL1.out.toLai HPI.out.2.2.2.1 Hw.out.fit).mono ?_;rintro e w' ⟨m,⟨ok,rfl⟩ | ⟨ok,rfl⟩⟩
      ·exact⟨_,_,rfl,.inl ⟨ok,rfl,rfl⟩,m⟩
      ·exact⟨_,_,rfl,.inr ⟨ok,rfl,rfl⟩,m⟩
     obtain⟨ra,Hra⟩:∃z,Hid (lp.ra=z):=⟨_,rfl⟩;obtain⟨rc,Hrc⟩:∃z,Hid (lp.rc=z):=⟨_,rfl⟩;obtain⟨rl,Hrl⟩:∃z,Hid (x.rs.length=z):=⟨_,rfl⟩;obtain⟨ca,Hca⟩:∃z,Hid (lp.ca=z):=⟨_,rfl⟩;obtain⟨cc,Hcc⟩:∃z,Hid (lp.cc=z):=⟨_,rfl⟩;obtain⟨cl,Hcl⟩:∃z,Hid (x.cs.length=z):=⟨_,rfl⟩;rw[Hra.out,Hrc.out,Hrl.out,Hca.out,Hcc.out,Hcl.out]at CX;have b0:w2.cell? ⟨G,0,none⟩=some (.slice ra rl rc):=by have:=H1.out.blk.cell (j:=0) rfl;rw[this,HPI.out.1,Hra.out,Hrc.out,Hrl.out];rfl
     have b1:w2.cell? ⟨G,1,none⟩=some (.slice ca cl cc):=by have:=H1.out.blk.cell (j:=1) rfl;rw[this,HPI.out.2.1,Hca.out,Hcc.out,Hcl.out];rfl
     go_wp2_with (fail)
     refine CX.out.mono ?_;rintro e w3 ⟨s3,c3,rfl,ht,m3⟩
     have hs3:s3.size < 4611686018427387904/\B64 c3:=by
      rcases ht with⟨ok,rfl,rfl⟩ | ⟨ok,rfl,rfl⟩
      ·refine⟨?_,J1g⟩
       have h1:=J2u x.prg x.prg.rl;have h2:=J3f x.prg x.prg.cl;have h3:=ok.1.1;have h4:=ok.2.2.1;rw[J0e,textL,List.length_append];omega
      ·exact⟨by decide,by unfold B64;decide⟩
     have CY:=J02 (J9f s3 c3 w3 (HL1.out.toLai.more m3) hs3.2 hs3.1)
     have HE:Hid (∀w',More w2 w'->P (.returned (.string (txt (if c3=0 then ansL okW [(s3.size:Int)] else ansL badW [c3])))) w'):=fun w' m=>HQ.out x _ w' (J79 (.inl ⟨rfl,rfl,by
      rcases ht with⟨ok,rfl,rfl⟩ | ⟨ok,rfl,rfl⟩
      ·exact .inl ⟨ok,by rw[if_pos rfl,J0e]⟩
      ·exact .inr ⟨ok,by rw[if_neg (by decide)]⟩⟩)) (DAns.same H1.out m)
     obtain⟨R,HRR⟩:∃R,Hid (txt (if c3=0 then ansL okW [(s3.size:Int)] else ansL badW [c3])=R):=⟨_,rfl⟩;rw[HRR.out]at CY HE;have Hm3:=J02 m3;clear CX ht hs3 m3 HRR HQ;go_wp2_with (fail)
     refine CY.out.mono ?_;rintro e w4 ⟨rfl,m4⟩;have HF:=J02 (HE.out w4 (Hm3.out.trans m4));clear CY m4 HE;go_wp2;exact HF.out
   ·obtain⟨f,rfl⟩:=len1 Hn.out.symm
    rcases hh with rfl | rfl
    ·have hdc:d=⟨#[114,117,110]⟩:=Hd.out
     subst hdc;clear Hd;obtain rfl:=HSI.out.1.ha (by simp);have CX:Hid (∀w',More w2 w'->Calls Tryz.prog 11 #[.agg #[.slice lp.ra x.rs.length lp.rc,.slice lp.ca x.cs.length lp.cc],.slice ml.ma x.ms.length ml.mc,V f] w' fun e w''=>∃c,Wr1 x.prg x.mem [] f c/\ToldR c (playI x.prg x.mem f.toNat).fin (playI x.prg x.mem f.toNat).val (playI x.prg x.mem f.toNat).steps (playI x.prg x.mem f.toNat).seen.length w' e w''):=fun w' m=>J7r x.prg lp x.mem ml f w' (HPI.out.2.2.2.1.more m) Hw.out.fit (HPI.out.2.2.2.2.more m) Hw.out.mwd
     obtain⟨ra,Hra⟩:∃z,Hid (lp.ra=z):=⟨_,rfl⟩;obtain⟨rc,Hrc⟩:∃z,Hid (lp.rc=z):=⟨_,rfl⟩;obtain⟨rl,Hrl⟩:∃z,Hid (x.rs.length=z):=⟨_,rfl⟩;obtain⟨ca,Hca⟩:∃z,Hid (lp.ca=z):=⟨_,rfl⟩;obtain⟨cc,Hcc⟩:∃z,Hid (lp.cc=z):=⟨_,rfl⟩;obtain⟨cl,Hcl⟩:∃z,Hid (x.cs.length=z):=⟨_,rfl⟩;rw[Hra.out,Hrc.out,Hrl.out,Hca.out,Hcc.out,Hcl.out]at CX;have b0:w2.cell? ⟨G,0,none⟩=some (.slice ra rl rc):=by have:=H1.out.blk.cell (j:=0) rfl;rw[this,HPI.out.1,Hra.out,Hrc.out,Hrl.out];rfl
     have b1:w2.cell? ⟨G,1,none⟩=some (.slice ca cl cc):=by have:=H1.out.blk.cell (j:=1) rfl;rw[this,HPI.out.2.1,Hca.out,Hcc.out,Hcl.out];rfl
     obtain⟨ma,Hma⟩:∃z,Hid (ml.ma=z):=⟨_,rfl⟩;obtain⟨mc,Hmc⟩:∃z,Hid (ml.mc=z):=⟨_,rfl⟩;obtain⟨mn,Hmn⟩:∃z,Hid (x.ms.length=z):=⟨_,rfl⟩;rw[Hma.out,Hmc.out,Hmn.out]at CX;have b2:w2.cell? ⟨G,2,none⟩=some (.slice ma mn mc):=by have:=H1.out.blk.cell (j:=2) rfl;rw[this,HPI.out.2.2.1,Hma.out,Hmc.out,Hmn.out];rfl
     obtain⟨S,HS⟩:∃S:World->Prop,Hid (∀w',S w'↔More w2 w'):=⟨_,fun _=>Iff.rfl⟩;have HS0:S w2.drew:=(HS.out _).2 (More.refl _).drew;have hne:Nonempty { w' // S w' }:=⟨⟨_,HS0⟩⟩;have k0:∀i:{ w' // S w' },i.val.cell? ⟨vb,0,none⟩=some (V f):=fun i=>((HS.out _).1 i.property).cell (by have:=HSI.out.1.cells 0 f rfl;simpa using this)
     have k1:∀i:{ w' // S w' },i.val.cell? ⟨G,0,none⟩=some (.slice ra rl rc):=fun i=>((HS.out _).1 i.property).cell b0
     have k2:∀i:{ w' // S w' },i.val.cell? ⟨G,1,none⟩=some (.slice ca cl cc):=fun i=>((HS.out _).1 i.property).cell b1
     have k3:∀i:{ w' // S w' },i.val.cell? ⟨G,2,none⟩=some (.slice ma mn mc):=fun i=>((HS.out _).1 i.property).cell b2
     obtain⟨wd,Hwd⟩:∃wd:World,Hid (wd=w2.drew):=⟨_,rfl⟩;have Hmd:Hid (More w2 wd):=Hwd.out▸(More.refl _).drew;go_wp2_with (fail)
     refine J04 (S:=S) [(0,true),(1,true),(2,true),(3,true),(4,true),(5,true),(6,true),(7,true),(8,true),(9,true),(10,true),(11,false),(12,true),(13,true),(14,false),(15,true)] (by kernel_rfl) (by kernel_rfl) (by kernel_rfl) HS0 ?_;rw[<-Hwd.out]
     iterate 11 (refine J00 rfl (by kernel_rfl) (fun K hK=>?_);go_simp;refine hK _ _ ?_;clear hK K)
     refine J03 rfl (by kernel_rfl) (fun K hK=>?_);go_simp;refine(CX.out wd Hmd.out).mono ?_;rintro e w3 ⟨c3,hw3,x1,x2,x3,a4,k4,c4,u4,rfl,hx,m3,_⟩;have Hm3:Hid (More w2 w3):=Hmd.out.trans m3
     have hrb:c3=0->RunB x1 x2 x3 k4:=fun q=>by
      obtain⟨rfl,rfl,rfl,rfl⟩:=hx q;subst q;exact Jjd hw3 Hw.out.fit Hw.out.mwd
     have hc3:B64 c3:=by
      rcases hw3 with⟨_,rfl⟩ | ⟨_,_,rfl⟩ | ⟨_,_,_,rfl⟩<;>(unfold B64;decide)
     have CY:=J02 (J9s x1 x2 x3 c3 a4 k4 c4 u4 w3 (HL1.out.toLaiD.more Hm3.out) hc3 hrb)
     have HE:Hid (∀w',More w2 w'->P (.returned (.string (txt (ranL c3 x1 x2 x3 k4)))) w'):=fun w' m=>HQ.out x _ w' (Jd5 (.inl ⟨f,rfl,rfl,c3,hw3,by
      by_cases q:c3=0
      ·obtain⟨rfl,rfl,rfl,rfl⟩:=hx q
       rfl
      ·rw[ranL,if_neg q,ranL,if_neg q]⟩)) (DAns.same H1.out m)
     obtain⟨R,HRR⟩:∃R,Hid (txt (ranL c3 x1 x2 x3 k4)=R):=⟨_,rfl⟩;rw[HRR.out]at CY HE
     go_simp
     refine hK _ _ ((HS.out _).2 Hm3.out) ?_;clear hK K CX hw3 hx m3 hrb hc3 HQ
     iterate 2 (refine J00 rfl (by kernel_rfl) (fun K hK=>?_);go_simp;refine hK _ _ ?_;clear hK K)
     refine J03 rfl (by kernel_rfl) (fun K hK=>?_);go_simp;refine CY.out.mono ?_;rintro e w4 ⟨rfl,m4⟩;have HF:=J02 (HE.out w4 (Hm3.out.trans m4));have hS4:S w4:=(HS.out _).2 (Hm3.out.trans m4)
     go_simp
     refine hK _ _ hS4 ?_;clear hK K CY m4 HE;refine J00 rfl (by kernel_rfl) (fun K hK=>?_);go_simp;refine hK _ _ ?_;clear hK K;refine J06 ?_;clear hne HS0 hS4 k0 k1 k2 k3;go_wp2;exact HF.out
    ·have hdc:d=⟨#[108,111,111,107]⟩:=Hd.out
     subst hdc;clear Hd;obtain rfl:=HSI.out.1.ha (by simp);have q0:w2.cell? ⟨vb,0,none⟩=some (V f):=by have:=HSI.out.1.cells 0 f rfl;simpa using this
     have CX:=J02 (Jh6 f w2 H1.out Hw.out HL1.out.toLai);go_wp2_with (fail)
     refine CX.out.mono ?_;rintro e w3 ⟨r,rfl,ht,m3⟩;have HF:=J02 (HQ.out x r w3 (J6z ht) (DAns.same H1.out m3));obtain⟨R,HRR⟩:∃R,Hid (txt r=R):=⟨_,rfl⟩;rw[HRR.out]at HF |-;clear CX ht m3 HQ;go_wp2;exact HF.out
   ·obtain⟨u,v,rfl⟩:=len2 Hn.out.symm
    subst hh;have hdc:d=⟨#[114,101,103,105,111,110]⟩:=Hd.out;subst hdc;clear Hd;obtain rfl:=HSI.out.1.ha (by simp);obtain⟨S,HS⟩:∃S:World->Prop,Hid (∀w',S w'↔SIn w' (some ⟨vb,0,none⟩) vb 0 [u,v]):=⟨_,fun _=>Iff.rfl⟩;have HS0:S w2.drew:=(HS.out _).2 (HSI.out.1.more (More.refl _).drew);have hne:Nonempty { w' // S w' }:=⟨⟨_,HS0⟩⟩;have k0:∀i:{ w' // S w' },i.val.cell? ⟨vb,0,none⟩=some (V u):=fun i=>by have:=((HS.out _).1 i.property).cells 0 u rfl;simpa using this
    have k1:∀i:{ w' // S w' },i.val.cell? ⟨vb,1,none⟩=some (V v):=fun i=>by have:=((HS.out _).1 i.property).cells 1 v rfl;simpa using this
    obtain⟨wd,Hwd⟩:∃wd:World,Hid (wd=w2.drew):=⟨_,rfl⟩;have Hmd:Hid (More w2 wd):=Hwd.out▸(More.refl _).drew;have H2:Hid (Dp B G x rv cv mv wd):=H1.out.more Hmd.out;have HL2:Hid (LaiG G wd):=HL1.out.low (Below.mono Hmd.out (Nat.le_of_lt H1.out.blk.lt));have HQ2:Hid (∀y z w',WordTo J5v [u,v] x y z->DAns B G wd y w'->P (.returned (.string (txt z))) w'):=fun y z w' k da=>HQ.out y z w' k ⟨da.ply,(Below.mono Hmd.out (Nat.le_of_lt H1.out.blk.lt)).trans da.low,(Spar.of Hmd.out).trans da.spar⟩
    have CX:=J02 (J85 u v wd H2.out Hw.out HL2.out);go_wp2_with (fail)
    refine J04 (S:=S) [(0,true),(1,true),(2,true),(3,true),(4,true),(5,true),(6,true),(7,false),(8,true)] (by kernel_rfl) (by kernel_rfl) (by kernel_rfl) HS0 ?_;rw[<-Hwd.out]
    iterate 7 (refine J00 rfl (by kernel_rfl) (fun K hK=>?_);go_simp;refine hK _ _ ?_;clear hK K)
    refine J03 rfl (by kernel_rfl) (fun K hK=>?_);go_simp;refine CX.out.mono ?_;rintro e w3 ⟨y,r,rfl,ht,da⟩;have HF:=J02 (HQ2.out y r w3 (J4t ht) da);have hS3:S w3:=(HS.out _).2 ((HSI.out.1.more Hmd.out).spar (fun q=>OfType.more (HSI.out.2.1 q) Hmd.out) da.spar);obtain⟨R,HRR⟩:∃R,Hid (txt r=R):=⟨_,rfl⟩;rw[HRR.out]at HF |-
    go_simp
    refine hK _ _ hS3 ?_;clear hK K CX ht da HQ HQ2;refine J00 rfl (by kernel_rfl) (fun K hK=>?_);go_simp;refine hK _ _ ?_;clear hK K;refine J06 ?_;clear hne HS0 hS3 k0 k1;go_wp2;exact HF.out
   ·obtain⟨o,a,b,c,n,rfl⟩:=len5 Hn.out.symm
    subst hh;have hdc:d=⟨#[105,110,115]⟩:=Hd.out;subst hdc;clear Hd;obtain rfl:=HSI.out.1.ha (by simp);obtain⟨S,HS⟩:∃S:World->Prop,Hid (∀w',S w'↔SIn w' (some ⟨vb,0,none⟩) vb 0 [o,a,b,c,n]):=⟨_,fun _=>Iff.rfl⟩;have HS0:S w2.drew:=(HS.out _).2 (HSI.out.1.more (More.refl _).drew);have hne:Nonempty { w' // S w' }:=⟨⟨_,HS0⟩⟩;have k0:∀i:{ w' // S w' },i.val.cell? ⟨vb,0,none⟩=some (V o):=fun i=>by have:=((HS.out _).1 i.property).cells 0 o rfl;simpa using this
    have k1:∀i:{ w' // S w' },i.val.cell? ⟨vb,1,none⟩=some (V a):=fun i=>by have:=((HS.out _).1 i.property).cells 1 a rfl;simpa using this
    have k2:∀i:{ w' // S w' },i.val.cell? ⟨vb,2,none⟩=some (V b):=fun i=>by have:=((HS.out _).1 i.property).cells 2 b rfl;simpa using this
    have k3:∀i:{ w' // S w' },i.val.cell? ⟨vb,3,none⟩=some (V c):=fun i=>by have:=((HS.out _).1 i.property).cells 3 c rfl;simpa using this
    have k4:∀i:{ w' // S w' },i.val.cell? ⟨vb,4,none⟩=some (V n):=fun i=>by have:=((HS.out _).1 i.property).cells 4 n rfl;simpa using this
    obtain⟨wd,Hwd⟩:∃wd:World,Hid (wd=w2.drew):=⟨_,rfl⟩;have Hmd:Hid (More w2 wd):=Hwd.out▸(More.refl _).drew;have H2:Hid (Dp B G x rv cv mv wd):=H1.out.more Hmd.out;have HL2:Hid (LaiG G wd):=HL1.out.low (Below.mono Hmd.out (Nat.le_of_lt H1.out.blk.lt));have HQ2:Hid (∀y z w',WordTo insW [o,a,b,c,n] x y z->DAns B G wd y w'->P (.returned (.string (txt z))) w'):=fun y z w' k da=>HQ.out y z w' k ⟨da.ply,(Below.mono Hmd.out (Nat.le_of_lt H1.out.blk.lt)).trans da.low,(Spar.of Hmd.out).trans da.spar⟩
    have CX:=J02 (Jc1 o a b c n wd H2.out Hw.out HL2.out);go_wp2_with (fail)
    refine J04 (S:=S) [(0,true),(1,true),(2,true),(3,true),(4,true),(5,true),(6,true),(7,true),(8,true),(9,true),(10,true),(11,true),(12,true),(13,true),(14,true),(15,true),(16,true),(17,false),(18,true)] (by kernel_rfl) (by kernel_rfl) (by kernel_rfl) HS0 ?_;rw[<-Hwd.out]
    iterate 17 (refine J00 rfl (by kernel_rfl) (fun K hK=>?_);go_simp;refine hK _ _ ?_;clear hK K)
    refine J03 rfl (by kernel_rfl) (fun K hK=>?_);go_simp;refine CX.out.mono ?_;rintro e w3 ⟨y,r,rfl,ht,da⟩;have HF:=J02 (HQ2.out y r w3 (J9v ht) da);have hS3:S w3:=(HS.out _).2 ((HSI.out.1.more Hmd.out).spar (fun q=>OfType.more (HSI.out.2.1 q) Hmd.out) da.spar);obtain⟨R,HRR⟩:∃R,Hid (txt r=R):=⟨_,rfl⟩;rw[HRR.out]at HF |-
    go_simp
    refine hK _ _ hS3 ?_;clear hK K CX ht da HQ HQ2;refine J00 rfl (by kernel_rfl) (fun K hK=>?_);go_simp;refine hK _ _ ?_;clear hK K;refine J06 ?_;clear hne HS0 hS3 k0 k1 k2 k3 k4;go_wp2;exact HF.out
   ·obtain⟨f,l,rfl⟩:∃f l,L=f::l:=by
     cases L with
     | nil=>have:=Hn.out;simp at this;omega
     | cons f l=>exact⟨f,l,rfl⟩
    rcases hh with rfl | rfl
    ·have hdc:d=⟨#[102,105,108,108]⟩:=Hd.out
     subst hdc;clear Hd;obtain⟨sn,rfl⟩:∃sn,n=sn+1:=⟨n - 1,by omega⟩;have Hsn:Hid (l.length=sn/\sn+1<=vc):=⟨by have:=Hn.out;simp at this;omega,HSI.out.2.2.1⟩;clear hn1;obtain rfl:=HSI.out.1.ha (by simp);have hs1:(1:Int)<=(sn:Int)+1:=by omega
     obtain⟨ta,hta⟩:∃ta,(if vc=1 then some (⟨vb,0,none⟩:Addr) else some ⟨vb,1,none⟩)=ta:=⟨_,rfl⟩;have HST:Hid (∀w',SIn w' (some ⟨vb,0,none⟩) vb 0 (f::l)->SIn w' ta vb 1 l):=fun w' k=>hta▸k.tail (by rw[Hsn.out.1];exact Hsn.out.2)
     obtain⟨S,HS⟩:∃S:World->Prop,Hid (∀w',S w'↔SIn w' (some ⟨vb,0,none⟩) vb 0 (f::l)):=⟨_,fun _=>Iff.rfl⟩;have HS0:S w2.drew:=(HS.out _).2 (HSI.out.1.more (More.refl _).drew);have hne:Nonempty { w' // S w' }:=⟨⟨_,HS0⟩⟩;have k0:∀i:{ w' // S w' },i.val.cell? ⟨vb,0,none⟩=some (V f):=fun i=>by have:=((HS.out _).1 i.property).cells 0 f rfl;simpa using this
     obtain⟨wd,Hwd⟩:∃wd:World,Hid (wd=w2.drew):=⟨_,rfl⟩;have Hmd:Hid (More w2 wd):=Hwd.out▸(More.refl _).drew;have H2:Hid (Dp B G x rv cv mv wd):=H1.out.more Hmd.out;have HL2:Hid (LaiG G wd):=HL1.out.low (Below.mono Hmd.out (Nat.le_of_lt H1.out.blk.lt));have HQ2:Hid (∀y z w',WordTo fillW (f::l) x y z->DAns B G wd y w'->P (.returned (.string (txt z))) w'):=fun y z w' k da=>HQ.out y z w' k ⟨da.ply,(Below.mono Hmd.out (Nat.le_of_lt H1.out.blk.lt)).trans da.low,(Spar.of Hmd.out).trans da.spar⟩
     have CX:=J02 (Jgm f l ta vb 1 sn (vc - 1) wd H2.out Hw.out Hsn.out.1 (by omega) (HST.out _ (HSI.out.1.more Hmd.out)) (fun _=>OfType.more (HSI.out.2.1 (by simp)) Hmd.out));go_wp2_with (fail)
     refine J04 (S:=S) [(0,true),(1,true),(2,true),(3,true),(4,true),(5,true),(6,false),(7,true)] (by kernel_rfl) (by kernel_rfl) (by kernel_rfl) HS0 ?_;rw[<-Hwd.out]
     iterate 6 (refine J00 rfl (by kernel_rfl) (fun K hK=>?_);go_simp;refine hK _ _ ?_;clear hK K)
     clear hta;refine J03 rfl (by kernel_rfl) (fun K hK=>?_);go_simp;refine CX.out.mono ?_;rintro e w3 ⟨y,r,rfl,ht,da⟩;have HF:=J02 (HQ2.out y r w3 (J6u ht) da);have hS3:S w3:=(HS.out _).2 ((HSI.out.1.more Hmd.out).spar (fun q=>OfType.more (HSI.out.2.1 q) Hmd.out) da.spar);obtain⟨R,HRR⟩:∃R,Hid (txt r=R):=⟨_,rfl⟩;rw[HRR.out]at HF |-
     go_simp
     refine hK _ _ hS3 ?_;clear hK K CX ht da HQ HQ2;refine J00 rfl (by kernel_rfl) (fun K hK=>?_);go_simp;refine hK _ _ ?_;clear hK K;refine J06 ?_;clear hne HS0 hS3 k0;go_wp2;exact HF.out
    ·have hdc:d=⟨#[97,104,101,97,100]⟩:=Hd.out
     subst hdc;clear Hd;obtain⟨sn,rfl⟩:∃sn,n=sn+1:=⟨n - 1,by omega⟩;have Hsn:Hid (l.length=sn/\sn+1<=vc):=⟨by have:=Hn.out;simp at this;omega,HSI.out.2.2.1⟩;clear hn1;obtain rfl:=HSI.out.1.ha (by simp);have hs1:(1:Int)<=(sn:Int)+1:=by omega
     obtain⟨ta,hta⟩:∃ta,(if vc=1 then some (⟨vb,0,none⟩:Addr) else some ⟨vb,1,none⟩)=ta:=⟨_,rfl⟩;have HST:Hid (∀w',SIn w' (some ⟨vb,0,none⟩) vb 0 (f::l)->SIn w' ta vb 1 l):=fun w' k=>hta▸k.tail (by rw[Hsn.out.1];exact Hsn.out.2)
     have CX:Hid (∀w',More w2 w'->Calls Tryz.prog 13 #[.agg #[.slice lp.ra x.rs.length lp.rc,.slice lp.ca x.cs.length lp.cc],.slice ml.ma x.ms.length ml.mc,.slice ta sn (vc - 1),V f] w' fun e w''=>∃c,Wr1 x.prg x.mem l f c/\ToldR c (playS x.prg (flatM x.mem) l f.toNat).fin (playS x.prg (flatM x.mem) l f.toNat).val (playS x.prg (flatM x.mem) l f.toNat).steps (playS x.prg (flatM x.mem) l f.toNat).seen.length w' e w''):=fun w' m=>J6n x.prg lp x.mem ml ta vb 1 sn (vc - 1) l f w' (HPI.out.2.2.2.1.more m) Hw.out.fit (HPI.out.2.2.2.2.more m) Hw.out.mwd Hsn.out.1 (by have:=Hsn.out.2;omega) (HST.out _ (HSI.out.1.more m))
     obtain⟨ra,Hra⟩:∃z,Hid (lp.ra=z):=⟨_,rfl⟩;obtain⟨rc,Hrc⟩:∃z,Hid (lp.rc=z):=⟨_,rfl⟩;obtain⟨rl,Hrl⟩:∃z,Hid (x.rs.length=z):=⟨_,rfl⟩;obtain⟨ca,Hca⟩:∃z,Hid (lp.ca=z):=⟨_,rfl⟩;obtain⟨cc,Hcc⟩:∃z,Hid (lp.cc=z):=⟨_,rfl⟩;obtain⟨cl,Hcl⟩:∃z,Hid (x.cs.length=z):=⟨_,rfl⟩;rw[Hra.out,Hrc.out,Hrl.out,Hca.out,Hcc.out,Hcl.out]at CX;have b0:w2.cell? ⟨G,0,none⟩=some (.slice ra rl rc):=by have:=H1.out.blk.cell (j:=0) rfl;rw[this,HPI.out.1,Hra.out,Hrc.out,Hrl.out];rfl
     have b1:w2.cell? ⟨G,1,none⟩=some (.slice ca cl cc):=by have:=H1.out.blk.cell (j:=1) rfl;rw[this,HPI.out.2.1,Hca.out,Hcc.out,Hcl.out];rfl
     obtain⟨ma,Hma⟩:∃z,Hid (ml.ma=z):=⟨_,rfl⟩;obtain⟨mc,Hmc⟩:∃z,Hid (ml.mc=z):=⟨_,rfl⟩;obtain⟨mn,Hmn⟩:∃z,Hid (x.ms.length=z):=⟨_,rfl⟩;rw[Hma.out,Hmc.out,Hmn.out]at CX;have b2:w2.cell? ⟨G,2,none⟩=some (.slice ma mn mc):=by have:=H1.out.blk.cell (j:=2) rfl;rw[this,HPI.out.2.2.1,Hma.out,Hmc.out,Hmn.out];rfl
     obtain⟨S,HS⟩:∃S:World->Prop,Hid (∀w',S w'↔More w2 w'):=⟨_,fun _=>Iff.rfl⟩;have HS0:S w2.drew:=(HS.out _).2 (More.refl _).drew;have hne:Nonempty { w' // S w' }:=⟨⟨_,HS0⟩⟩;have k0:∀i:{ w' // S w' },i.val.cell? ⟨vb,0,none⟩=some (V f):=fun i=>((HS.out _).1 i.property).cell (by have:=HSI.out.1.cells 0 f rfl;simpa using this)
     have k1:∀i:{ w' // S w' },i.val.cell? ⟨G,0,none⟩=some (.slice ra rl rc):=fun i=>((HS.out _).1 i.property).cell b0
     have k2:∀i:{ w' // S w' },i.val.cell? ⟨G,1,none⟩=some (.slice ca cl cc):=fun i=>((HS.out _).1 i.property).cell b1
     have k3:∀i:{ w' // S w' },i.val.cell? ⟨G,2,none⟩=some (.slice ma mn mc):=fun i=>((HS.out _).1 i.property).cell b2
     obtain⟨wd,Hwd⟩:∃wd:World,Hid (wd=w2.drew):=⟨_,rfl⟩;have Hmd:Hid (More w2 wd):=Hwd.out▸(More.refl _).drew;go_wp2_with (fail)
     refine J04 (S:=S) [(0,true),(1,true),(2,true),(3,true),(4,true),(5,true),(6,true),(7,true),(8,true),(9,true),(10,true),(11,true),(12,true),(13,false),(14,true),(15,true),(16,false),(17,true)] (by kernel_rfl) (by kernel_rfl) (by kernel_rfl) HS0 ?_;rw[<-Hwd.out]
     iterate 13 (refine J00 rfl (by kernel_rfl) (fun K hK=>?_);go_simp;refine hK _ _ ?_;clear hK K)
     clear hta;refine J03 rfl (by kernel_rfl) (fun K hK=>?_);go_simp;refine(CX.out wd Hmd.out).mono ?_;rintro e w3 ⟨c3,hw3,x1,x2,x3,a4,k4,c4,u4,rfl,hx,m3,_⟩;have Hm3:Hid (More w2 w3):=Hmd.out.trans m3
     have hrb:c3=0->RunB x1 x2 x3 k4:=fun q=>by
      obtain⟨rfl,rfl,rfl,rfl⟩:=hx q;subst q;exact Jje hw3 Hw.out.fit Hw.out.mwd
     have hc3:B64 c3:=by
      rcases hw3 with⟨_,rfl⟩ | ⟨_,_,rfl⟩ | ⟨_,_,_,rfl⟩<;>(unfold B64;decide)
     have CY:=J02 (J9s x1 x2 x3 c3 a4 k4 c4 u4 w3 (HL1.out.toLaiD.more Hm3.out) hc3 hrb)
     have HE:Hid (∀w',More w2 w'->P (.returned (.string (txt (ranL c3 x1 x2 x3 k4)))) w'):=fun w' m=>HQ.out x _ w' (J64 (.inl ⟨f,l,rfl,rfl,c3,hw3,by
      by_cases q:c3=0
      ·obtain⟨rfl,rfl,rfl,rfl⟩:=hx q
       rfl
      ·rw[ranL,if_neg q,ranL,if_neg q]⟩)) (DAns.same H1.out m)
     obtain⟨R,HRR⟩:∃R,Hid (txt (ranL c3 x1 x2 x3 k4)=R):=⟨_,rfl⟩;rw[HRR.out]at CY HE
     go_simp
     refine hK _ _ ((HS.out _).2 Hm3.out) ?_;clear hK K CX hw3 hx m3 hrb hc3 HQ
     iterate 2 (refine J00 rfl (by kernel_rfl) (fun K hK=>?_);go_simp;refine hK _ _ ?_;clear hK K)
     refine J03 rfl (by kernel_rfl) (fun K hK=>?_);go_simp;refine CY.out.mono ?_;rintro e w4 ⟨rfl,m4⟩;have HF:=J02 (HE.out w4 (Hm3.out.trans m4));have hS4:S w4:=(HS.out _).2 (Hm3.out.trans m4)
     go_simp
     refine hK _ _ hS4 ?_;clear hK K CY m4 HE;refine J00 rfl (by kernel_rfl) (fun K hK=>?_);go_simp;refine hK _ _ ?_;clear hK K;refine J06 ?_;clear hne HS0 hS4 k0 k1 k2 k3;go_wp2;exact HF.out
def Keep5(w w':World):Prop:=∀(k:Nat) (c:Array Value) (t:TypeId) (fz:Nat × Nat),w.heap[k]?=some (.cells c t fz)->Own5 t->w'.heap[k]?=some (.cells c t fz)
theorem Jbg{w w':World}(k:Keep5 w w'){B:Nat}{e:TypeId}{s:Nat}{v:Value}{n:Nat}{xs:List Value}(h:w.ownsRow B e s v n xs)(h5:Own5 e):w'.ownsRow B e s v n xs:=by
 obtain⟨h1,h | ⟨g,cap,cur,e1,e2,e3,e4⟩⟩:=h
 ·exact⟨h1,.inl h⟩
 ·exact⟨h1,.inr ⟨g,cap,cur,e1,e2,k g _ _ _ e3 h5,e4⟩⟩
theorem Ply.keep{B G:Nat}{rs:List (Int × Bool)}{cs:List Ins}{ms:List (List Int)}{rv cv mv:Value}{w w':World}(h:Ply 63 B G rs cs ms rv cv mv w)(k:Keep5 w w'):Ply 63 B G rs cs ms rv cv mv w':=by
 obtain⟨gs,g⟩:=h.mem;exact⟨k _ _ _ _ h.blk own5P,h.lo,h.ty,Jbg k h.ownR own5R,Jbg k h.ownC own5I,gs,g.len,g.nodup,Jbg k g.own own5S,fun i b l e1 e2=>⟨(g.blk i b l e1 e2).1,k _ _ _ _ (g.blk i b l e1 e2).2 own5W⟩⟩
theorem Jl5{w w':World}{B b:Nat}{l:List UInt8}(h:Bld w B b l)(o:Oth b w w'):Keep5 w w':=fun k c t fz hk h5=>by
 refine o k _ hk ?_ ?_
 ·intro e
  obtain rfl:k=b:=Option.some.inj e
  have hb:∃q v,w.heap[k]?=some (.cells #[q,v] 67 (0,0)):=by
   rcases h with⟨_,v,e,_⟩ | ⟨_,v,e,_⟩
   ·exact⟨_,_,e⟩
   ·exact⟨_,_,e⟩
  obtain⟨q,v,hb⟩:=hb;rw[hb]at hk
  injection (Option.some.inj hk) with _ e _
  subst e;exact not5 (by decide) (by decide) (by decide) (by decide) (by decide) h5
 ·intro c' fz' e
  injection e with _ e _
  subst e;exact not5 (by decide) (by decide) (by decide) (by decide) (by decide) h5
theorem Bld.spar{w w':World}{B b:Nat}{l:List UInt8}(h:Bld w B b l)(s:Spar w w'):Bld w' B b l:=by
 have key:∀q,Lib.BuilderAtF 67 5 B b q (Lib.byteCells l) w->Lib.BuilderAtF 67 5 B b q (Lib.byteCells l) w':=fun q hq=>by
  obtain⟨h1,v,h2,⟨h3,h4⟩,h5⟩:=hq;refine⟨h1,v,s _ _ h2 (fun c t fz e=>?_),⟨h3,?_⟩,h5⟩
  ·injection e with _ e _
   subst e;exact not5 (by decide) (by decide) (by decide) (by decide) (by decide)
  ·rcases h4 with h4 | ⟨g,cap,cur,fz,e1,e2,e3,e4⟩
   ·exact .inl h4
   ·refine .inr ⟨g,cap,cur,fz,e1,e2,s _ _ e3 (fun c t fz e=>?_),e4⟩
    injection e with _ e _
    subst e;exact not5 (by decide) (by decide) (by decide) (by decide) (by decide)
 rcases h with h | h
 ·exact .inl (key _ h)
 ·exact .inr (key _ h)
theorem Jcn:J0v []=[]:=rfl
theorem Jj1{s:List UInt8}(h:¬(10:UInt8) ∈ s)(h0:¬s=[]):J0v s=[s]:=by
 unfold J0v;rw[J4b 10 s h];simp[h0]
theorem ply0(w:World)(c:Array Value)(hc:c=#[.slice none 0 0,.slice none 0 0,.slice none 0 0]):Ply 63 (w.heap.size+1) w.heap.size [] [] [] (.slice none 0 0) (.slice none 0 0) (.slice none 0 0) (w.alloc (.cells c 63)):=by
 subst hc;exact⟨Blk.last _ _ _,rfl,by unfold TyOk;decide,World.ownsRow_nil _ _ _ _,World.ownsRow_nil _ _ _ _,[],rfl,List.nodup_nil,World.ownsRow_nil _ _ _ _,fun i g l h _=>by simp at h⟩

theorem Ja4(s:List UInt8)(w:World)(HL0:LaiD w)(h8:8<=w.heap.size)(hl:s.length < 4611686018427387904):
  Calls Tryz.prog 7 #[.string (txt s)] w fun e w'=>∃a,e=.returned (.string (txt a))/\ScriptTo s a/\More w w':=by
 suffices hP:∀P:Ending->World->Prop,(∀a w',ScriptTo s a->More w w'->P (.returned (.string (txt a))) w')->Calls Tryz.prog 7 #[.string (txt s)] w P from hP _ (fun a w' h m=>⟨a,rfl,h,m⟩)
 intro P hP0;have HP:Hid (∀a w',ScriptTo s a->More w w'->P (.returned (.string (txt a))) w'):=hP0;obtain⟨G,HG⟩:∃x,Hid (w.heap.size=x):=⟨_,rfl⟩;have HM:Hid (∀wr,Below G w wr->More w wr):=fun wr m=>by show Below w.heap.size w wr;rw[HG.out];exact m
 have CC:Hid (∀(r:List UInt8) (d:ByteArray),d=txt r->r.length<=s.length->∀w1,Calls Tryz.prog 19 #[.string d,.string ⟨#[10]⟩] w1 fun e w'=>∃(d1 d2:ByteArray) (ok:Bool),e=.returned (.tuple #[.string d1,.string d2,.bool ok])/\J7b r 10 d1 d2 ok/\More w1 w'):=fun r d e hs w1=>by
  subst e;exact Jca r (by omega) 10 w1
 have CA:Hid (∀(r:List UInt8) (d:ByteArray),d=txt r->r.length<=s.length->∀(x:Sta) w1,(∃rv cv mv,Dp (G+1) G x rv cv mv w1)->Wf x->LaiG G w1->Calls Tryz.prog 21 #[.pointer (some ⟨G,0,none⟩),.string d] w1 fun e w'=>∃y a,e=.returned (.string (txt a))/\SLineTo x r y a/\DAns (G+1) G w1 y w'):=fun r d e hs x w1 hp hw hL=>by
  subst e;obtain⟨rv,cv,mv,hp⟩:=hp;exact Jc4 r w1 hp hw hL (by omega)
 have CWr:Hid (∀(l m:List UInt8) (d:ByteArray) w',d++txt [10]=txt m->Bld w' (G+1) (G+1) l->l.length+m.length<=140737488355328->G+1<=w'.heap.size->Calls Tryz.prog 20 #[.pointer (some ⟨G+1,0,none⟩),.string (d++⟨#[10]⟩)] w' fun e w''=>∃n:Int,e=.returned (.tuple #[V n,.nilIface])/\Bld w'' (G+1) (G+1) (l++m)/\Below (G+1) w' w''/\Oth (G+1) w' w''):=fun l m d w' hd hb hl hB=>by
  have hd':d++⟨#[10]⟩=txt m:=hd;rw[hd'];exact(J1d (G+1) (G+1) l m w' hb hl hB).mono (fun e w'' h=>⟨_,h.1,h.2.1,h.2.2.1,h.2.2.2⟩)
 obtain⟨W,HW⟩:∃w_:World,Hid (w_=(w.alloc (.cells #[.slice none 0 0,.slice none 0 0,.slice none 0 0] 63)).alloc (.cells #[.pointer none,.slice none 0 0] 67)):=⟨_,rfl⟩
 have H0:Hid ((∃rv cv mv,Dp (G+1) G sta0 rv cv mv W)/\Bld W (G+1) (G+1) []/\LaiG G W/\Below G w W):=by
  have hz:(w.alloc (.cells #[.slice none 0 0,.slice none 0 0,.slice none 0 0] 63)).heap.size=G+1:=by simp[HG.out]
  have hb:=J3r (w.alloc (.cells #[.slice none 0 0,.slice none 0 0,.slice none 0 0] 63));rw[hz,<-HW.out]at hb
  have hm:Below G w W:=by
   have:More w W:=HW.out▸((More.refl _).alloc _ _).alloc _ _;have h2:Below w.heap.size w W:=this;rw[HG.out]at h2;exact h2
  have hp:=(ply0 w _ rfl).more ((More.refl (w.alloc (.cells #[.slice none 0 0,.slice none 0 0,.slice none 0 0] 63))).alloc #[.pointer none,.slice none 0 0] 67);rw[<-HW.out,HG.out]at hp;exact⟨⟨_,_,_,hp⟩,hb,LaiG.low ⟨HL0,by rw[<-HG.out];exact h8⟩ hm,hm⟩
 obtain⟨ss,Hss⟩:∃x,Hid (txt s=x):=⟨_,rfl⟩;rw[Hss.out];clear hP0 HL0 h8 hl;go_enter Tryz.func7,Tryz.ntmps7;go_wp2_with (fail)
 rw[<-HW.out];rw[HG.out];go_loopg [0,6] 40 (fun g dv kv wr=>∃(k:Nat) (d:ByteArray),k+g=40/\dv=.string d/\kv=V k/\Hid (∃(rest:List UInt8) (ls:List (List UInt8)) (x:Sta) (a:List UInt8),d=txt rest/\rest.length<=s.length/\ls.length=k/\J0v s=ls++J0v rest/\PlayTo sta0 ls x a/\a.length<=2001*k/\Wf x/\(∃rv cv mv,Dp (G+1) G x rv cv mv wr)/\Bld wr (G+1) (G+1) a/\LaiG G wr/\Below G w wr))
 case atStart=>exact⟨0,ss,by omega,rfl,rfl,s,[],sta0,[],Hss.out.symm,Nat.le_refl _,rfl,rfl,⟨rfl,rfl⟩,by simp,wf0,H0.out⟩
 case round=>
  obtain⟨k,d,hkg,rfl,rfl,Hr⟩:=hrel;clear H0;obtain⟨rest,ls,x,a,e1,e2,e3,e4,e5,e6,e7,e8,e9,e10,e11⟩:=Hr.out;have HA:Hid (d=txt rest/\rest.length<=s.length/\ls.length=k/\J0v s=ls++J0v rest/\PlayTo sta0 ls x a/\a.length<=2001*k/\Wf x/\(∃rv cv mv,Dp (G+1) G x rv cv mv wr)/\Bld wr (G+1) (G+1) a/\LaiG G wr/\Below G w wr):=⟨e1,e2,e3,e4,e5,e6,e7,e8,e9,e10,e11⟩
  have hG1:G+1 < wr.heap.size:=by
   rcases e9 with q | q
   ·exact q.lt
   ·exact q.lt
  have CS:=J02 (J29 (G+1) (G+1) a wr e9 (Nat.le_of_lt hG1));have HE:Hid (ScriptTo s a->∀w',Below (G+1) wr w'->P (.returned (.string (txt a))) w'):=fun hs w' m=>HP.out a w' hs (HM.out w' (e11.trans (Below.mono m (Nat.le_succ G))))
  have HG1:=J02 hG1;clear Hr e1 e2 e3 e4 e5 e6 e7 e8 e9 e10 e11 hG1;cases gk with
  | zero=>
   obtain rfl:k=40:=by omega
   have HF:=J02 (HE.out ⟨x,by rw[HA.out.2.2.2.1,List.take_append_of_le_length (by rw[HA.out.2.2.1];exact Nat.le_refl _),List.take_of_length_le (by rw[HA.out.2.2.1];exact Nat.le_refl _)];exact HA.out.2.2.2.2.1⟩);obtain⟨R,HR⟩:∃R,Hid (txt a=R):=⟨_,rfl⟩;rw[HR.out]at CS HF;clear HE HP CC CA CWr;go_wp2_with (fail)
   refine CS.out.mono ?_;rintro e w3 ⟨rfl,_,b3,_⟩;have HF2:=J02 (HF.out w3 b3);clear HF b3 CS;go_wp2;exact HF2.out
  | succ g=>
   have hk:(k:Int) < 40:=by omega
   have hk63:wrap64 ((k:Int)+1)=(k:Int)+1:=by unfold wrap64;omega
   by_cases hr0:rest=[]
   ·have hd0:d.toList=[]:=by rw[HA.out.1,ByteArray.toList_mk,hr0]
    have hd1:(d.toList==[])=true:=by simp[hd0]
    have HF:=J02 (HE.out ⟨x,by
     have h4:=HA.out.2.2.2.1;rw[hr0,Jcn,List.append_nil]at h4;rw[h4,List.take_of_length_le (by have:=HA.out.2.2.1;omega)];exact HA.out.2.2.2.2.1⟩)
    obtain⟨R,HR⟩:∃R,Hid (txt a=R):=⟨_,rfl⟩;rw[HR.out]at CS HF;clear HE HP CC CA CWr;go_wp2_with (fail)
    refine CS.out.mono ?_;rintro e w3 ⟨rfl,_,b3,_⟩;have HF2:=J02 (HF.out w3 b3);clear HF b3 CS;go_wp2;exact HF2.out
   ·have hd0:¬d.toList=[]:=by rw[HA.out.1,ByteArray.toList_mk];exact hr0
    have hd1:(d.toList==[])=false:=by simp only[beq_eq_false_iff_ne];exact hd0
    have hd2:d.toList.isEmpty=false:=by cases q:d.toList with
     | nil=>exact absurd q hd0
     | cons=>rfl
    have C1:=J02 (CC.out rest d HA.out.1 HA.out.2.1 wr);clear HE CS CC;go_wp2_with (fail)
    refine C1.out.mono ?_;rintro e w2 ⟨d1,d2,ok,rfl,hc,m2⟩
    have H2:Hid (∃(l:List UInt8) (rest2:List UInt8),d1=txt l/\d2=txt rest2/\l.length<=s.length/\rest2.length<=s.length/\J0v rest=l::J0v rest2):=by
     have hr:=HA.out.2.1;rcases hc with⟨rfl,u,v,e,n,rfl,rfl⟩ | ⟨rfl,n,rfl,rfl⟩
     ·have hx:u.length+v.length+1=rest.length:=by rw[e];simp;omega
      refine⟨u,v,rfl,rfl,by omega,by omega,?_⟩;rw[e,J9y,J4b 10 u n]
      rfl
     ·exact⟨rest,[],rfl,rfl,hr,by simp,by rw[Jj1 n hr0,Jcn]⟩
    obtain⟨l,rest2,f1,f2,f3,f4,f5⟩:=H2.out;have hlow2:Below G wr w2:=Below.mono m2 (Nat.le_of_lt (Nat.lt_of_succ_lt HG1.out));have C2:=J02 (CA.out l d1 f1 f3 x w2 (by obtain⟨rv,cv,mv,q⟩:=HA.out.2.2.2.2.2.2.2.1;exact⟨rv,cv,mv,q.more m2⟩) HA.out.2.2.2.2.2.2.1 (HA.out.2.2.2.2.2.2.2.2.2.1.low hlow2));have HB2:Hid (Bld w2 (G+1) (G+1) a/\Below G w w2/\G+1 < w2.heap.size/\LaiG G w2):=⟨J42 HA.out.2.2.2.2.2.2.2.2.1 m2,HA.out.2.2.2.2.2.2.2.2.2.2.trans hlow2,Nat.lt_of_lt_of_le HG1.out m2.size,HA.out.2.2.2.2.2.2.2.2.2.1.low hlow2⟩;have HF:Hid (d2=txt rest2/\rest2.length<=s.length/\J0v s=(ls++[l])++J0v rest2):=⟨f2,f4,by rw[HA.out.2.2.2.1,f5];simp⟩;clear C1 hc m2 H2 f1 f2 f3 f4 f5 CA hlow2;go_wp2_with (fail)
    refine C2.out.mono ?_;rintro e w3 ⟨y,b,rfl,hline,da⟩;have Hb3:Hid (Bld w3 (G+1) (G+1) a):=Bld.spar HB2.out.1 da.spar
    have hsz3:G+1<=w3.heap.size:=by
     rcases Hb3.out with q | q
     ·exact Nat.le_of_lt q.lt
     ·exact Nat.le_of_lt q.lt
    have hshort:=hline.short HA.out.2.2.2.2.2.2.1;have HX:Hid (SLineTo x l y b/\DAns (G+1) G w2 y w3/\b.length<=2000/\Wf y):=⟨hline,da,hshort,hline.wf HA.out.2.2.2.2.2.2.1⟩;have C3:=J02 (CWr.out a (b++[10]) (txt b) w3 (J1k b [10]) Hb3.out (by have:=HA.out.2.2.2.2.2.1;rw[List.length_append];simp;omega) hsz3);obtain⟨bt,Hbt⟩:∃z,Hid (txt b=z):=⟨_,rfl⟩;rw[Hbt.out]at C3 |-;have hbz:bt.size<=2000:=by rw[<-Hbt.out,J0e];exact hshort
    clear C2 hline da hshort CWr hsz3;go_wp2_with (fail)
    refine C3.out.mono ?_;rintro e w4 ⟨n4,rfl,h4,b4,o4⟩
    have HN:Hid (∃(rest:List UInt8) (ls:List (List UInt8)) (x:Sta) (a:List UInt8),d2=txt rest/\rest.length<=s.length/\ls.length=k+1/\J0v s=ls++J0v rest/\PlayTo sta0 ls x a/\a.length<=2001*(k+1)/\Wf x/\(∃rv cv mv,Dp (G+1) G x rv cv mv w4)/\Bld w4 (G+1) (G+1) a/\LaiG G w4/\Below G w w4):=by
     have hlow:Below G w2 w4:=HX.out.2.1.low.trans (Below.mono b4 (Nat.le_succ G));obtain⟨rv,cv,mv,hp⟩:=HX.out.2.1.ply;refine⟨rest2,ls++[l],y,a++(b++[10]),HF.out.1,HF.out.2.1,by rw[List.length_append,HA.out.2.2.1];rfl,HF.out.2.2,HA.out.2.2.2.2.1.snoc HX.out.1,?_,HX.out.2.2.2,⟨rv,cv,mv,hp.keep (Jl5 Hb3.out o4)⟩,h4,HB2.out.2.2.2.low hlow,HB2.out.2.1.trans hlow⟩;have h1:=HA.out.2.2.2.2.2.1;have h2:=HX.out.2.2.1;rw[List.length_append,List.length_append]
     simp
     omega
    clear C3 HX HB2 HF HA h4 b4 o4 Hb3;go_wp2;go_roundg g
    case measure=>omega
    case rel=>exact⟨k+1,d2,by omega,rfl,by first | rfl | simp[hk63],HN.out⟩
theorem Jem:ScriptTo [63] [63,10]:=by
 have hno:¬J4d [63]:=by unfold J4d;decide
 refine⟨sta0,sta0,[63],[],⟨[63],[],rfl,.inl ⟨[],⟨rfl,fun n hn=>by simp at hn⟩,J80 hno ⟨rfl,rfl⟩⟩⟩,⟨rfl,rfl⟩,rfl⟩
theorem PlayTo.short:∀{ls:List (List UInt8)} {x y:Sta} {a:List UInt8},PlayTo x ls y a->Wf x->a.length<=2001*ls.length
 | [],_,_,_,h,_=>by rw[h.2];simp
 | l::ls,_,_,_,⟨z,b,c,h1,h2,h3⟩,w=>by
  have k1:=h1.short w;have k2:=h2.short (h1.wf w);rw[h3,List.length_append,List.length_cons,List.length_cons];omega
theorem ScriptTo.short{s a:List UInt8}(h:ScriptTo s a):a.length<=100000:=by
 obtain⟨y,h⟩:=h;have h1:=h.short wf0;have h2:((J0v s).take 40).length<=40:=by simp;omega
 omega

theorem Jau(a b:List UInt8)(w:World)(hL:LaiD w)(h8:8<=w.heap.size)(ha:a.length<=140737488355328)(hb:b.length<=140737488355328):
  Calls Tryz.prog 4 #[.string (txt a),.string (txt b)] w fun e w'=>e=.returned (.bool true)/\More w w':=by
 suffices hP:∀P:Ending->World->Prop,(∀w',More w w'->P (.returned (.bool true)) w')->Calls Tryz.prog 4 #[.string (txt a),.string (txt b)] w P from hP _ (fun w' m=>⟨rfl,m⟩)
 intro P hP0;have HP:Hid (∀w',More w w'->P (.returned (.bool true)) w'):=hP0
 have CP:Hid (∀(s:List UInt8) (d:ByteArray),d=txt s->s.length < 4611686018427387904->∀w1,More w w1->Calls Tryz.prog 7 #[.string d] w1 fun e w'=>∃(r:List UInt8) (d':ByteArray),e=.returned (.string d')/\d'=txt r/\ScriptTo s r/\More w1 w'):=fun s d e hs w1 m=>by
  subst e;refine(Ja4 s w1 (hL.more m) (Nat.le_trans h8 m.size) hs).mono ?_;rintro e w' ⟨r,rfl,h,m⟩;exact⟨r,_,rfl,rfl,h,m⟩
 have e1:txt a++⟨#[10]⟩=txt (a++[10]):=J1k a [10];have e2:(txt a++⟨#[10]⟩)++txt b=txt (a++10::b):=by rw[e1,J1k (a++[10]) b];simp
 have z1:=J0e a;have z2:=J0e b;have C1:=J02 (CP.out (a++[10]) _ e1 (by simp;omega));have C2:=J02 (CP.out (a++10::b) _ e2 (by simp;omega));have C3:=J02 (CP.out [63] ⟨#[63]⟩ rfl (by decide));obtain⟨sa,Hsa⟩:∃x,Hid (txt a=x):=⟨_,rfl⟩;obtain⟨sb,Hsb⟩:∃x,Hid (txt b=x):=⟨_,rfl⟩;rw[Hsa.out]at C1 C2 z1 |-;rw[Hsb.out]at C2 z2 |-;rw[<-z1]at ha;rw[<-z2]at hb;clear hP0 hL h8 CP e1 e2 z1 z2;go_enter Tryz.func4,Tryz.ntmps4;go_wp2_with (fail)
 refine(C1.out w (More.refl _)).mono ?_;rintro e w1 ⟨r1,d1,rfl,f1,s1,m1⟩;have H1:Hid (d1=txt r1/\ScriptTo (a++[10]) r1):=⟨f1,s1⟩;have Hm1:=J02 m1;clear C1 f1 s1 m1;go_wp2_with (fail)
 refine(C2.out w1 Hm1.out).mono ?_;rintro e w2 ⟨r2,d2,rfl,f2,s2,m2⟩;have H2:Hid (d2=txt r2/\ScriptTo (a++10::b) r2):=⟨f2,s2⟩;have Hm2:=J02 (Hm1.out.trans m2);clear C2 f2 s2 m2;go_wp2_with (fail)
 refine(C3.out w2 Hm2.out).mono ?_;rintro e w3 ⟨r3,d3,rfl,f3,s3,m3⟩;obtain rfl:=s3.one Jem;have HE:=J02 (HP.out w3 (Hm2.out.trans m3));obtain rfl:d3=⟨#[63,10]⟩:=f3;clear C3 s3 m3 HP;have hz1:d1.size<=100000:=by rw[H1.out.1,J0e];exact H1.out.2.short
 have hz2:d2.size<=100000:=by rw[H2.out.1,J0e];exact H2.out.2.short
 obtain⟨c,hc⟩:=H1.out.2.front H2.out.2;have hle:d1.size<=d2.size:=by rw[H1.out.1,H2.out.1,J0e,J0e,hc];simp
 have hlei:(d1.size:Int)<=(d2.size:Int):=by omega
 have hex:d2.extract 0 d1.size=d1:=by rw[H1.out.1,H2.out.1,hc,J0e];exact(J62 r1 c).1
 clear hc;go_wp2;exact HE.out
theorem Jfm(d:List UInt8):∀k,(∀j,j < k->48<=(d.getD j 0).toNat/\(d.getD j 0).toNat<=57)->valK d k < 10 ^ k
 | 0,_=>by simp[valK]
 | k+1,h=>by
  have h1:=Jfm d k (fun j hj=>h j (by omega));have h2:=h k (by omega);rw[valK,Nat.pow_succ];omega
theorem Jae(d:List UInt8)(k:Nat)(hk:k<=6)(h:∀j,j < k->48<=(d.getD j 0).toNat/\(d.getD j 0).toNat<=57):valK d k < 1000000:=
 Nat.lt_of_lt_of_le (Jfm d k h) (Nat.pow_le_pow_right (by decide) hk)

theorem Jas(l:List UInt8)(w:World)(hl:l.length < 4611686018427387904):
  Calls Tryz.prog 8 #[.string (txt l)] w fun e w'=>∃v ok,e=.returned (.tuple #[V v,.bool ok])/\J63 6 l v ok/\w'=w:=by
 suffices hP:∀P:Ending->World->Prop,(∀v ok,J63 6 l v ok->P (.returned (.tuple #[V v,.bool ok])) w)->Calls Tryz.prog 8 #[.string (txt l)] w P from hP _ (fun v ok h=>⟨v,ok,rfl,h,rfl⟩)
 intro P hP0
 obtain⟨b,d,hs⟩:∃b d,Jby l b d:=by
  cases l with
  | nil=>exact⟨false,[],.inr ⟨rfl,rfl,fun r h=>by cases h⟩⟩
  | cons x r=>
   by_cases c:x=45
   ·subst c;exact⟨true,r,.inl ⟨rfl,rfl⟩⟩
   ·exact⟨false,x::r,.inr ⟨rfl,rfl,fun r' h=>c (List.cons.inj h).1⟩⟩
 have HP:Hid (∀v ok,J63 6 l v ok->P (.returned (.tuple #[V v,.bool ok])) w):=hP0;have Hno:Hid (¬DigOk b d 6->P (.returned (.tuple #[V 0,.bool false])) w):=fun n=>HP.out 0 false (.inr ⟨rfl,Jny hs n⟩)
 have Hyes:Hid (DigOk b d 6->P (.returned (.tuple #[V (if b then -(valK d d.length:Int) else(valK d d.length:Int)),.bool true])) w):=fun n=>HP.out _ true (.inl ⟨rfl,b,d,hs,n,rfl⟩)
 have hdl:d.length<=l.length:=by rcases hs with⟨_,rfl⟩ | ⟨_,rfl,_⟩<;>simp
 clear hP0 HP;by_cases hone:b=true/\d=[]
 ·obtain⟨rfl,rfl⟩:=hone
  have HE:=J0n (Hno.out (fun k=>by have:=k.pos;simp at this));obtain rfl:l=[45]:=by rcases hs with⟨_,h⟩ | ⟨h,_⟩;exact h;cases h
  have hsz:(txt [45]).size=1:=rfl;have hg:∀h:0 < (txt [45]).size,(txt [45])[0]'h=45:=fun h=>J96 (F:=[45]) rfl h
  obtain⟨ss,Hss⟩:∃x,Hid (txt [45]=x):=⟨_,rfl⟩;rw[Hss.out]at hsz hg |-;have hsp:0 < ss.size:=by omega
  have hgs:=hg hsp;clear Hno Hyes hs hdl hl hg;go_enter Tryz.func8,Tryz.ntmps8;go_wp2_with (fail)
  go_loopg [5,6] 1 (fun g nv kv wr=>g=1/\nv=V 0/\kv=V 0/\wr=w)
  case atStart=>exact⟨rfl,rfl,rfl,rfl⟩
  case round=>
   obtain⟨rfl,rfl,rfl,rfl⟩:=hrel;go_wp2;exact HE.out
 obtain⟨ds,Hds⟩:∃x,Hid (txt d=x):=⟨_,rfl⟩;obtain⟨dn,Hdn⟩:∃x,Hid (d.length=x):=⟨_,rfl⟩;have hdz:ds.size=dn:=by rw[<-Hds.out,J0e,Hdn.out]
 have Hget:Hid (∀k (hk:k < ds.size),ds[k]'hk=d.getD k 0):=fun k hk=>by
  have h1:k < d.length:=by rw[Hdn.out,<-hdz];exact hk
  have h2:d[k]?=some (d.getD k 0):=by rw[List.getD_eq_getElem?_getD,List.getElem?_eq_getElem h1];rfl
  have:=J96 h2 (by rw[Hds.out];exact hk);simpa[Hds.out]using this
 have pre:(b=true/\∃ss:ByteArray,txt l=ss/\∃ln:Nat,ss.size=ln/\1 < ln/\(∀h:0 < ss.size,ss[0]'h=45)/\ss.extract 1 ln=ds)\/(b=false/\txt l=ds/\(dn=0\/(0 < dn/\¬(d.getD 0 0).toNat=45))):=by
  rcases hs with⟨rfl,rfl⟩ | ⟨rfl,rfl,hno⟩
  ·refine .inl ⟨rfl,_,rfl,d.length+1,by rw[J0e];rfl,by have:¬d=[]:=fun h=>hone ⟨rfl,h⟩;have:=List.length_pos_iff.2 this;omega,fun h=>J96 (F:=45::d) rfl h,?_⟩
   rw[<-Hds.out];show(ByteArray.mk (45::d).toArray).extract 1 (d.length+1)=_;rw[ByteArray.extract_mk]
   simp
  ·refine .inr ⟨rfl,Hds.out,?_⟩
   cases l with
   | nil=>left;rw[<-Hdn.out];rfl
   | cons x r=>
    right;refine⟨by rw[<-Hdn.out];simp,fun h=>hno r ?_⟩;have:x=45:=UInt8.toNat_inj.1 h;rw[this]
 clear hs hone;have hdn:dn < 4611686018427387904:=by rw[<-Hdn.out];omega
 by_cases bad:dn < 1\/6 < dn\/((d.getD 0 0).toNat=48/\(1 < dn\/b=true))
 ·have HE0:=J0n (Hno.out (fun k=>by
   have h1:=k.pos;have h2:=k.most;have h3:=k.lead;rw[Hdn.out]at h1 h2 h3;rcases bad with c | c | c
   ·omega
   ·omega
   ·exact h3 ⟨UInt8.toNat_inj.1 c.1,c.2⟩))
  clear Hno Hyes
  have hc:decide ((dn:Int) < 1)=true\/(decide ((dn:Int) < 1)=false/\decide (6 < (dn:Int))=true)\/(decide ((dn:Int) < 1)=false/\decide (6 < (dn:Int))=false/\((d.getD 0 0).toNat:Int)=48/\(decide (1 < (dn:Int))=true\/(decide (1 < (dn:Int))=false/\b=true))):=by
   by_cases c1:dn < 1
   ·left;simp;omega
   ·right
    by_cases c2:6 < dn
    ·left;simp;omega
    ·right
     rcases bad with c | c | c
     ·omega
     ·omega
     ·refine⟨by simp;omega,by simp;omega,by omega,?_⟩
      by_cases c3:1 < dn
      ·left;simp;omega
      ·right;refine⟨by simp;omega,?_⟩;rcases c.2 with c | c;omega;exact c
  clear bad;have hg0:∀h:0 < ds.size,ds[0]'h=d.getD 0 0:=fun h=>Hget.out 0 h
  clear Hget;obtain⟨d0,Hd0⟩:∃x,Hid (d.getD 0 0=x):=⟨_,rfl⟩;rw[Hd0.out]at hg0 hc pre;rcases pre with⟨rfl,ss,hss,ln,hsz,hl0,hs0,hex⟩ | ⟨rfl,hss,hcase⟩
  ·rw[hss]
   have hl0i:(1:Int) < (ln:Int):=by omega
   have hl1i:(0:Int) < (ln:Int):=by omega
   rcases hc with c1 | ⟨c1,c2⟩ | ⟨c1,c2,c3,c4 | ⟨c4,_⟩⟩
   all_goals
    try have hds0:0 < ds.size:=by simp at c1;omega
    try have hg:=hg0 hds0
    try have hdi:(0:Int) < (dn:Int):=by simp at c1;omega
    have hsp:0 < ss.size:=by omega
    have hgs:=hs0 hsp;clear hg0 hs0;go_enter Tryz.func8,Tryz.ntmps8;go_wp2;exact HE0.out
  ·rw[hss]
   rcases hcase with h0 | ⟨h0,h45⟩
   ·subst h0
    go_enter Tryz.func8,Tryz.ntmps8;go_wp2;exact HE0.out
   ·have hds0:0 < ds.size:=by omega
    have hg:=hg0 hds0;have hdi:(0:Int) < (dn:Int):=by omega
    have e45:((d0.toNat:Int)==45)=false:=by simp;omega
    have c1n:decide (1 < (dn:Int))=true\/decide (1 < (dn:Int))=false:=by cases decide (1 < (dn:Int))<;>simp
    clear hg0;rcases hc with c1 | ⟨c1,c2⟩ | ⟨c1,c2,c3,c4 | ⟨c4,c5⟩⟩
    ·simp at c1;omega
    ·rcases c1n with c1n | c1n
     all_goals
      go_enter Tryz.func8,Tryz.ntmps8;go_wp2;exact HE0.out
    ·clear c1n
     go_enter Tryz.func8,Tryz.ntmps8;go_wp2;exact HE0.out
    ·cases c5
 ·have H1:Hid (1<=dn/\dn<=6/\¬((d.getD 0 0).toNat=48/\(1 < dn\/b=true))):=⟨by omega,by omega,fun h=>bad (.inr (.inr h))⟩
  have c1:decide ((dn:Int) < 1)=false:=by simp;omega
  have c2:decide (6 < (dn:Int))=false:=by simp;omega
  have hc:((((d.getD 0 0).toNat:Int)==48)=false)\/((((d.getD 0 0).toNat:Int)==48)=true/\decide (1 < (dn:Int))=false/\b=false):=by
   have h3:=H1.out.2.2;obtain⟨n0,hn0⟩:∃x,(d.getD 0 0).toNat=x:=⟨_,rfl⟩;rw[hn0]at h3 |-;by_cases c:n0=48
   ·right
    refine⟨by simp;omega,by simp;omega,?_⟩;cases hb:b with
    | false=>rfl
    | true=>exact absurd ⟨c,.inr hb⟩ h3
   ·left;simp;omega
  have hds0:0 < ds.size:=by omega
  have hg0:=Hget.out 0 hds0;have hdi:(0:Int) < (dn:Int):=by omega
  obtain⟨d0,Hd0⟩:∃x,Hid (d.getD 0 0=x):=⟨_,rfl⟩;rw[Hd0.out]at hg0 hc pre;have HN:Hid (∀k,k < dn->¬(48<=(d.getD k 0).toNat/\(d.getD k 0).toNat<=57)->P (.returned (.tuple #[V 0,.bool false])) w):=fun k hk h=>Hno.out (fun o=>h (o.digs k (by rw[Hdn.out];exact hk)))
  have HY:Hid ((∀k,k < dn->48<=(d.getD k 0).toNat/\(d.getD k 0).toNat<=57)->P (.returned (.tuple #[V (if b then -(valK d dn:Int) else(valK d dn:Int)),.bool true])) w):=fun h1=>by
   have hv:=Jae d dn H1.out.2.1 h1;have h:=Hyes.out ⟨by rw[Hdn.out];exact H1.out.1,by rw[Hdn.out];have:=H1.out.2.1;omega,fun h=>H1.out.2.2 ⟨by rw[h.1];rfl,by rw[<-Hdn.out];exact h.2⟩,fun k hk=>h1 k (by rw[<-Hdn.out];exact hk),by rw[Hdn.out];split<;>omega⟩;rw[Hdn.out]at h;exact h
  have Hsm:Hid (∀k,k<=dn->(∀j,j < k->48<=(d.getD j 0).toNat/\(d.getD j 0).toNat<=57)->valK d k < 1000000):=fun k hk h=>Jae d k (by have:=H1.out.2.1;omega) h
  clear Hno Hyes bad H1;have hstep:∀k,valK d (k+1)=10*valK d k+((d.getD k 0).toNat - 48):=fun k=>rfl
  have Hst:=J0n hstep;clear hstep
  have hway:∃(ss:ByteArray) (ln:Nat),txt l=ss/\ss.size=ln/\((b=true/\1 < (ln:Int)/\(0:Int) < (ln:Int)/\(∀h:0 < ss.size,ss[0]'h=45)/\ss.extract 1 ln=ds/\((d0.toNat:Int)==48)=false)\/(b=false/\ss=ds/\ln=dn/\((d0.toNat:Int)==45)=false)):=by
   rcases pre with⟨rfl,ss,hss,ln,hsz,hl0,hs0,hex⟩ | ⟨rfl,hss,hcase⟩
   ·rcases hc with c3 | ⟨_,_,c5⟩
    ·exact⟨ss,ln,hss,hsz,.inl ⟨rfl,by omega,by omega,hs0,hex,c3⟩⟩
    ·cases c5
   ·refine⟨ds,dn,hss,hdz,.inr ⟨rfl,rfl,rfl,?_⟩⟩
    rcases hcase with h | ⟨_,h⟩
    ·omega
    ·simp;omega
  clear pre;obtain⟨ss,ln,hss,hsz,hway⟩:=hway;rw[hss];have hcn:decide (1 < (dn:Int))=true\/decide (1 < (dn:Int))=false:=by cases decide (1 < (dn:Int))<;>simp
  have hways:(b=true/\1 < (ln:Int)/\(0:Int) < (ln:Int)/\(∀h:0 < ss.size,ss[0]'h=45)/\ss.extract 1 ln=ds/\((d0.toNat:Int)==48)=false)\/(b=false/\ds=ss/\dn=ln/\((d0.toNat:Int)==45)=false/\decide (1 < (dn:Int))=true/\((d0.toNat:Int)==48)=false)\/(b=false/\ds=ss/\dn=ln/\((d0.toNat:Int)==45)=false/\decide (1 < (dn:Int))=false/\((d0.toNat:Int)==48)=false)\/(b=false/\ds=ss/\dn=ln/\((d0.toNat:Int)==45)=false/\decide (1 < (dn:Int))=false/\((d0.toNat:Int)==48)=true):=by
   rcases hway with h | ⟨a1,a2,a3,a4⟩
   ·exact .inl h
   ·right
    rcases hc with c3 | ⟨c3,c4,_⟩
    ·rcases hcn with q | q
     ·exact .inl ⟨a1,a2.symm,a3.symm,a4,q,c3⟩
     ·exact .inr (.inl ⟨a1,a2.symm,a3.symm,a4,q,c3⟩)
    ·exact .inr (.inr ⟨a1,a2.symm,a3.symm,a4,c4,c3⟩)
  clear hway hcn hc
  have hlp:0 < ss.size:=by
   rcases hways with⟨_,_,h,_⟩ | ⟨_,rfl,rfl,_⟩ | ⟨_,rfl,rfl,_⟩ | ⟨_,rfl,rfl,_⟩<;>omega
  rcases hways with⟨rfl,q1,q2,q3,q4,q5⟩ | ⟨rfl,rfl,rfl,q4,q5,q6⟩ | ⟨rfl,rfl,rfl,q4,q5,q6⟩ | ⟨rfl,rfl,rfl,q4,q5,q6⟩
  all_goals
   try have q33:=q3 hlp
   try clear q3
   go_enter Tryz.func8,Tryz.ntmps8;go_wp2_with (fail)
   go_loopg [5,6] dn (fun g nv kv wr=>∃(k:Nat) (nn:Int),k+g=dn/\nv=V nn/\kv=V k/\Hid (wr=w/\nn=(valK d k:Int)/\∀j,j < k->48<=(d.getD j 0).toNat/\(d.getD j 0).toNat<=57))
   case atStart=>exact⟨0,0,by omega,rfl,rfl,rfl,rfl,fun j hj=>absurd hj (Nat.not_lt_zero _)⟩
   case round=>
    obtain⟨k,nn,hkg,rfl,rfl,Hr⟩:=hrel;obtain⟨hwr,hnn,hdg⟩:=Hr.out;subst hwr;have hV:=Hsm.out k (by omega) hdg;cases gk with
    | zero=>
     obtain rfl:k=dn:=by omega
     have t:=HY.out hdg;simp only[reduceIte,Bool.false_eq_true,<-hnn]at t;have HE:=J0n t;have w0:wrap64 (-nn) = -nn:=by unfold wrap64;omega
     have w00:wrap64 (0 - nn) = -nn:=by unfold wrap64;omega
     clear HY HN hdg t hnn hV Hsm;go_wp2;exact HE.out
    | succ g=>
     have hk:k < dn:=by omega
     have hki:(k:Int) < (dn:Int):=by omega
     have hks:k < ds.size:=by omega
     have hgk:=Hget.out k hks;have hk63:wrap64 ((k:Int)+1)=(k:Int)+1:=by unfold wrap64;omega
     have hNk:=HN.out k hk;have hSt:=Hst.out k;obtain⟨bk,Hbk⟩:∃x,Hid (d.getD k 0=x):=⟨_,rfl⟩;rw[Hbk.out]at hgk hNk hSt;obtain⟨nb,Hnb⟩:∃x,Hid (bk.toNat=x):=⟨_,rfl⟩;have hgx:(bk.toNat:Int)=nb:=by rw[Hnb.out]
     rw[Hnb.out]at hNk hSt;have Hdg:=J0n hdg;clear hdg;by_cases d1:nb < 48
     ·have HE:=J0n (hNk (by omega))
      have e1:decide ((nb:Int) < 48)=true:=by simp;omega
      clear hNk HY HN;go_wp2;exact HE.out
     by_cases d2:57 < nb
     ·have HE:=J0n (hNk (by omega))
      have e1:decide ((nb:Int) < 48)=false:=by simp;omega
      have e2:decide (57 < (nb:Int))=true:=by simp;omega
      clear hNk HY HN;go_wp2;exact HE.out
     have e1:decide ((nb:Int) < 48)=false:=by simp;omega
     have e2:decide (57 < (nb:Int))=false:=by simp;omega
     have Hdn1:Hid (∀j,j < k+1->48<=(d.getD j 0).toNat/\(d.getD j 0).toNat<=57):=fun j hj=>by
      rcases Nat.lt_succ_iff_lt_or_eq.1 hj with c | c
      ·exact Hdg.out j c
      ·subst c;rw[Hbk.out,Hnb.out];exact⟨Nat.not_lt.1 d1,Nat.not_lt.1 d2⟩
     obtain⟨y,hy⟩:∃y:Int,((nb:Int) - 48) % 256=y:=⟨_,rfl⟩;have hy0:y=(nb:Int) - 48/\0<=y/\y<=9:=by omega
     have w1:wrap64 y=y:=by unfold wrap64;omega
     obtain⟨tt,htt⟩:∃t:Int,10*nn=t:=⟨_,rfl⟩;have w4:wrap64 tt=tt:=by unfold wrap64;omega
     obtain⟨uu,huu⟩:∃u:Int,tt+y=u:=⟨_,rfl⟩;have w5:wrap64 uu=uu:=by unfold wrap64;omega
     have HX:Hid (∃(k':Nat) (nn':Int),k'+g=dn/\Value.int .i64 uu=V nn'/\Value.int .i64 ((k:Int)+1)=V k'/\Hid (wr=wr/\nn'=(valK d k':Int)/\∀j,j < k'->48<=(d.getD j 0).toNat/\(d.getD j 0).toNat<=57)):=by
      exact⟨k+1,_,by omega,rfl,by simp,rfl,by omega,Hdn1.out⟩
     clear hNk HY HN hSt hy0 hnn hV d1 d2 Hsm;go_wp2;go_roundg g
     case measure=>omega
     case rel=>obtain⟨k',nn',a1,a2,a3,a4⟩:=HX.out;exact⟨k',nn',a1,a2,a3,rfl,a4.out.2⟩
theorem Jgj(l:List UInt8)(b:UInt8)(w:World)(hl:l.length<=1099511627776):
  Calls Tryz.prog 5 #[.string (txt l),.int .u8 b.toNat] w fun e w'=>∃g cap,e=.returned (.slice (some ⟨g,0,none⟩) (J09 b l).length cap)/\w'.ownsRow w.heap.size 9 1 (.slice (some ⟨g,0,none⟩) (J09 b l).length cap) (J09 b l).length (strC (J09 b l))/\More w w':=by
 suffices hP:∀P:Ending->World->Prop,(∀g cap w',w'.ownsRow w.heap.size 9 1 (.slice (some ⟨g,0,none⟩) (J09 b l).length cap) (J09 b l).length (strC (J09 b l))->More w w'->P (.returned (.slice (some ⟨g,0,none⟩) (J09 b l).length cap)) w')->Calls Tryz.prog 5 #[.string (txt l),.int .u8 b.toNat] w P from hP _ (fun g cap w' own m=>⟨g,cap,rfl,own,m⟩)
 intro P hP0;have HP:Hid (∀g cap w',w'.ownsRow w.heap.size 9 1 (.slice (some ⟨g,0,none⟩) (J09 b l).length cap) (J09 b l).length (strC (J09 b l))->More w w'->P (.returned (.slice (some ⟨g,0,none⟩) (J09 b l).length cap)) w'):=hP0;obtain⟨i0,hi,hz0,hz1,hz2⟩:=info_parts Joz;have Hi:Hid (Tryz.prog.info? 9=some i0/\i0.zero=some (.string ⟨#[]⟩)/\i0.size=1/\i0.bytes=16):=⟨hi,hz0,hz1,hz2⟩;clear hP0 hi hz0 hz1 hz2;obtain⟨ss,Hss⟩:∃x,Hid (txt l=x):=⟨_,rfl⟩;obtain⟨ln,Hln⟩:∃x,Hid (l.length=x):=⟨_,rfl⟩;rw[Hss.out];have hsz:ss.size=ln:=by rw[<-Hss.out,J0e,Hln.out]
 rw[Hln.out]at hl
 have Hget:Hid (∀k (hk:k < ss.size),l[k]?=some (ss[k]'hk)):=fun k hk=>by
  have h1:k < l.length:=by rw[Hln.out,<-hsz];exact hk
  have:=J96 (List.getElem?_eq_getElem h1) (by rw[Hss.out];exact hk);have h2:ss[k]'hk=l[k]:=by simpa[Hss.out]using this
  rw[h2,List.getElem?_eq_getElem h1]
 have Hpart:Hid (∀f i,ss.extract f i=txt ((l.drop f).take (i - f))):=fun f i=>by rw[<-Hss.out];exact ByteArray.extract_mk l f i
 go_enter Tryz.func5,Tryz.ntmps5;go_wp2_with (fail)
 go_loopg [5,6,7] (ln+1) (fun g lv fv iv wr=>∃(i f:Nat) (L:List (List UInt8)) (va:Option Addr) (n vc:Nat),i+g=ln+1/\lv=.slice va n vc/\fv=V f/\iv=V i/\f<=i/\
  Hid (n=L.length/\n<=f/\wr.ownsRow w.heap.size 9 1 (.slice va n vc) n (strC L)/\More w wr/\((i<=ln/\J09 b l=L++J09 b (l.drop f)/\∀j,f<=j->j < i->¬l[j]?=some b)\/(i=ln+1/\J09 b l=L))))
 case atStart=>exact⟨0,0,[],none,0,0,by omega,rfl,rfl,rfl,Nat.le_refl _,rfl,Nat.le_refl _,World.ownsRow_nil _ _ _ _,More.refl _,.inl ⟨Nat.zero_le _,by simp,fun j _ h=>absurd h (Nat.not_lt_zero _)⟩⟩
 case round=>
  obtain⟨i,f,L,va,n,vc,hig,rfl,rfl,rfl,hfi,Hr⟩:=hrel;cases gk with
  | zero=>
   obtain rfl:i=ln+1:=by omega
   obtain⟨h1,h2,h3,h4,h5⟩:=Hr.out
   obtain⟨_,h6⟩:ln+1=ln+1/\J09 b l=L:=by
    rcases h5 with h5 | h5
    ·omega
    ·exact h5
   have d0:decide ((ln:Int)+1<=(ln:Int))=false:=decide_eq_false (by omega);have hn1:0 < n:=by rw[h1,<-h6];exact(J2i b l).1
   obtain⟨g,cap,hv,_,_⟩:=h3.form hn1;have hv0:=hv;cases hv
   have HE:Hid (P (.returned (.slice (some ⟨g,0,none⟩) n vc)) wr):=by
    have:=HP.out g vc wr;rw[h6,<-h1]at this;exact this h3 h4
   clear HP h1 h2 h3 h4 h5 h6 hn1;go_wp2;exact HE.out
  | succ g=>
   have hi:i<=ln:=by omega
   have hii:(i:Int)<=(ln:Int):=by omega
   have hfii:(f:Int)<=(i:Int):=by omega
   have d0:decide ((i:Int)<=(ln:Int))=true:=decide_eq_true hii;have hi63:wrap64 ((i:Int)+1)=(i:Int)+1:=by unfold wrap64;omega
   obtain⟨h6,h7⟩:J09 b l=L++J09 b (l.drop f)/\∀j,f<=j->j < i->¬l[j]?=some b:=by
    rcases Hr.out.2.2.2.2 with h | h
    ·exact⟨h.2.1,h.2.2⟩
    ·omega
   obtain⟨pt,hpt⟩:∃x,ss.extract f i=x:=⟨_,rfl⟩;have Hpt:Hid (pt=txt ((l.drop f).take (i - f))):=by rw[<-hpt];exact Hpart.out f i
   have hno:∀j,j < i - f->¬(l.drop f)[j]?=some b:=fun j hj=>by
    rw[List.getElem?_drop];exact h7 (f+j) (by omega) (by omega)
   have nxt:(i=ln\/(i < ln/\l[i]?=some b))->∀g3 cap3 w3,w3.ownsRow w.heap.size 9 1 (.slice (some ⟨g3,0,none⟩) (n+1) cap3) (n+1) (strC L++[Value.string pt])->More w w3->
     ∃(i' f':Nat) (L':List (List UInt8)) (va':Option Addr) (n' vc':Nat),i'+g=ln+1/\Value.slice (some ⟨g3,0,none⟩) (n+1) cap3=.slice va' n' vc'/\Value.int .i64 ((i:Int)+1)=V f'/\Value.int .i64 ((i:Int)+1)=V i'/\f'<=i'/\
      Hid (n'=L'.length/\n'<=f'/\w3.ownsRow w.heap.size 9 1 (.slice va' n' vc') n' (strC L')/\More w w3/\((i'<=ln/\J09 b l=L'++J09 b (l.drop f')/\∀j,f'<=j->j < i'->¬l[j]?=some b)\/(i'=ln+1/\J09 b l=L'))):=by
    intro hc g3 cap3 w3 own m3;refine⟨i+1,i+1,L++[(l.drop f).take (i - f)],_,_,_,by omega,rfl,by simp,by simp,Nat.le_refl _,by simp[Hr.out.1],by have:=Hr.out.2.1;omega,?_,m3,?_⟩
    ·rw[Jm7];rw[Hpt.out]at own;exact own
    ·rcases hc with rfl | ⟨hc,hb⟩
     ·right
      refine⟨rfl,?_⟩;have hlen:(l.drop f).length=i - f:=by rw[List.length_drop,Hln.out]
      rw[h6,J74 b (l.drop f) (fun j hj=>hno j (by omega)),List.take_of_length_le (by omega)]
     ·left
      refine⟨by omega,?_,fun j h1 h2=>by omega⟩;rw[h6,Jaa b (i - f) (l.drop f) hno (by rw[List.getElem?_drop,show f+(i - f)=i by omega];exact hb),List.drop_drop,show f+(i - f+1)=i+1 by omega,List.append_assoc]
      rfl
   have Hnxt:=J0n nxt
   have hpass:i < ln->¬l[i]?=some b->∃(i' f':Nat) (L':List (List UInt8)) (va':Option Addr) (n' vc':Nat),i'+g=ln+1/\Value.slice va n vc=.slice va' n' vc'/\Value.int .i64 (f:Int)=V f'/\Value.int .i64 ((i:Int)+1)=V i'/\f'<=i'/\
      Hid (n'=L'.length/\n'<=f'/\wr.ownsRow w.heap.size 9 1 (.slice va' n' vc') n' (strC L')/\More w wr/\((i'<=ln/\J09 b l=L'++J09 b (l.drop f')/\∀j,f'<=j->j < i'->¬l[j]?=some b)\/(i'=ln+1/\J09 b l=L'))):=fun h1 h2=>by
    refine⟨i+1,f,L,va,n,vc,by omega,rfl,rfl,by simp,by omega,Hr.out.1,Hr.out.2.1,Hr.out.2.2.1,Hr.out.2.2.2.1,.inl ⟨by omega,h6,fun j a c=>?_⟩⟩;by_cases e:j=i
    ·subst e;exact h2
    ·exact h7 j a (by omega)
   have Hpass:=J0n hpass;clear nxt hpass hno h6 h7;by_cases hil:i=ln
   ·have Hn3:=J0n (Hnxt.out (.inl hil))
    have e0:((i:Int)==(ln:Int))=true:=by simp[hil]
    clear Hnxt Hpass hil;obtain⟨W,HW⟩:∃w_:World,Hid (w_=wr.alloc (.cells #[.string pt] 9)):=⟨_,rfl⟩;have HmW:Hid (More wr W):=HW.out▸(More.refl _).alloc _ _;have HbW:Hid (Blk W wr.heap.size #[.string pt] 9):=HW.out▸Blk.last _ _ _;have HO:Hid (W.ownsRow w.heap.size 9 1 (.slice va n vc) n (strC L)):=World.ownsRow.kept Hr.out.2.2.1 (HmW.out.grow none) (by cases (Value.slice va n vc).ownBlock<;>simp);have Hnews:Hid (∀j u,[Value.string pt][j]?=some u->W.cell? ((⟨wr.heap.size,0,none⟩:Addr).add j)=some u):=World.news_of_block HbW.out;have Hlo:Hid (w.heap.size<=W.heap.size):=Nat.le_trans Hr.out.2.2.2.1.size HmW.out.size;have hnf:n<=f:=Hr.out.2.1;have HMw:Hid (More w W):=Hr.out.2.2.2.1.trans HmW.out;have HbL:Hid (∀k,(Value.slice va n vc).ownBlock=some k->w.heap.size<=k):=fun k hk=>(HO.out.lt k hk).1
    clear HP;go_wp2_with (at_builtin;rw[<-HW.out];refine wpList_append_lies _ rfl (.tmp 25) (.tmp 30) 22 rfl w.heap.size 9 i0 (.string ⟨#[]⟩) 1 16 Tryz.underlying22 Hi.out.1 Hi.out.2.1 Hi.out.2.2.1 Hi.out.2.2.2 rfl (by decide) (.slice va n vc) n (strC L) rfl HO.out ⟨wr.heap.size,0,none⟩ 1 1 [.string pt] rfl rfl Hnews.out (by intro u hu;simp at hu;subst hu;rfl) (by omega) (by unfold maxLen;omega) (by omega) Hlo.out W.heap.size rfl ?_;intro g3 cap3 w3 own3 gr3 hat3 hlt3;have HX:=J0n (Hn3.out g3 cap3 w3 own3 (HMw.out.grownBy gr3 HbL.out));clear own3 gr3 hat3 hlt3)
    go_roundg g
    case measure=>omega
    case rel=>exact HX.out
   ·have hlt:i < ln:=by omega
    have e0:((i:Int)==(ln:Int))=false:=by simp;omega
    have hltz:i < ss.size:=by omega
    have hlti:(i:Int) < (ln:Int):=by omega
    have hg:=Hget.out i hltz;obtain⟨x,hx⟩:∃x,ss[i]'hltz=x:=⟨_,rfl⟩;rw[hx]at hg;by_cases hxb:x=b
    ·subst hxb
     have Hn3:=J0n (Hnxt.out (.inr ⟨hlt,hg⟩));clear Hnxt Hpass hg;obtain⟨W,HW⟩:∃w_:World,Hid (w_=wr.alloc (.cells #[.string pt] 9)):=⟨_,rfl⟩;have HmW:Hid (More wr W):=HW.out▸(More.refl _).alloc _ _;have HbW:Hid (Blk W wr.heap.size #[.string pt] 9):=HW.out▸Blk.last _ _ _;have HO:Hid (W.ownsRow w.heap.size 9 1 (.slice va n vc) n (strC L)):=World.ownsRow.kept Hr.out.2.2.1 (HmW.out.grow none) (by cases (Value.slice va n vc).ownBlock<;>simp);have Hnews:Hid (∀j u,[Value.string pt][j]?=some u->W.cell? ((⟨wr.heap.size,0,none⟩:Addr).add j)=some u):=World.news_of_block HbW.out;have Hlo:Hid (w.heap.size<=W.heap.size):=Nat.le_trans Hr.out.2.2.2.1.size HmW.out.size;have hnf:n<=f:=Hr.out.2.1;have HMw:Hid (More w W):=Hr.out.2.2.2.1.trans HmW.out;have HbL:Hid (∀k,(Value.slice va n vc).ownBlock=some k->w.heap.size<=k):=fun k hk=>(HO.out.lt k hk).1
     clear HP;go_wp2_with (at_builtin;rw[<-HW.out];refine wpList_append_lies _ rfl (.tmp 25) (.tmp 30) 22 rfl w.heap.size 9 i0 (.string ⟨#[]⟩) 1 16 Tryz.underlying22 Hi.out.1 Hi.out.2.1 Hi.out.2.2.1 Hi.out.2.2.2 rfl (by decide) (.slice va n vc) n (strC L) rfl HO.out ⟨wr.heap.size,0,none⟩ 1 1 [.string pt] rfl rfl Hnews.out (by intro u hu;simp at hu;subst hu;rfl) (by omega) (by unfold maxLen;omega) (by omega) Hlo.out W.heap.size rfl ?_;intro g3 cap3 w3 own3 gr3 hat3 hlt3;have HX:=J0n (Hn3.out g3 cap3 w3 own3 (HMw.out.grownBy gr3 HbL.out));clear own3 gr3 hat3 hlt3)
     go_roundg g
     case measure=>omega
     case rel=>exact HX.out
    ·have Hn3:=J0n (Hpass.out hlt (by rw[hg];simp[hxb]))
     have e1:((x.toNat:Int)==(b.toNat:Int))=false:=by
      simp only[beq_eq_false_iff_ne];intro e;exact hxb (UInt8.toNat_inj.1 (by omega))
     clear Hnxt Hpass hg HP;go_wp2;go_roundg g
     case measure=>omega
     case rel=>exact Hn3.out
theorem J7e(l:List UInt8)(b:UInt8)(w:World)(hl:l.length<=1099511627776):
  Calls Tryz.prog 5 #[.string (txt l),.int .u8 b.toNat] w fun e w'=>∃g cap,e=.returned (.slice (some ⟨g,0,none⟩) (J09 b l).length cap)/\w.heap.size<=g/\(∀i s,(J09 b l)[i]?=some s->w'.cell? ⟨g,i,none⟩=some (.string (txt s)))/\(More w w'/\(J09 b l).length<=cap):=by
 refine(Jgj l b w hl).mono ?_;rintro e w' ⟨g,cap,rfl,own,m⟩;refine⟨g,cap,rfl,(own.lt g rfl).1,fun i s hs=>?_,m,?_⟩
 ·have hi:i < (J09 b l).length:=(List.getElem?_eq_some_iff.1 hs).1
  rw[World.ownsRow.cellAt own i (by omega)];simp[strC,hs]
 ·rcases own.2 with⟨q,_⟩ | ⟨g',cap',cur,q,_,_,e,_⟩
  ·cases q
  ·cases q;exact e
end
section
open Go.RowKit
set_option linter.unusedSimpArgs false
set_option linter.unusedVariables false
structure Kept(A:Prop):Prop where
 out:A
theorem Jne{G:Prop}{A:Prop}(h1:Kept A->G)(h2:A):G:=h1 ⟨h2⟩
theorem Jg6(a:Act)(k:Nat)(h:k < a.tmps.size):a.put (some k) (a.tmps.getD k undef)=a:=by
 unfold Act.put;cases a with
 | mk t d=>
  simp only at h |-
  congr 1
  apply Array.ext_getElem?;intro i;rw[Array.getElem?_setIfInBounds];by_cases e:k=i
  ·subst e;simp[h]
  ·simp[e]
theorem Ja5(a:Act):∀ks:List Nat,ks.all (· < a.tmps.size)=true->ks.foldl (fun b k=>b.put (some k) (a.tmps.getD k undef)) a=a
 | [],_=>rfl
 | k::ks,h=>by
  simp only[List.all_cons,Bool.and_eq_true,decide_eq_true_eq]at h;rw[List.foldl_cons,Jg6 a k h.1];exact Ja5 a ks h.2
theorem J82{P:Program}{C:Code}{Q:Exit->Act->World->Prop}{w:World}(ks:List Nat){a:Act}(h:ks.all (· < a.tmps.size)=true)
  (k:∀f:Nat->Value,C.wp P Q (ks.foldl (fun b k=>b.put (some k) (f k)) a) w):C.wp P Q a w:=by
 have:=k (fun k=>a.tmps.getD k undef);rw[Ja5 a ks h]at this;exact this
end
end Go.Proofs.YtephohhigbfafaaGreatDoor
