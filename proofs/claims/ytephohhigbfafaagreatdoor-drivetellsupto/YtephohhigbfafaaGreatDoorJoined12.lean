/-
  The texts DlLine, DlLaw, one behind the other, with what is used of them.
-/
import Derived.Test.YtephohhigbfafaaGreatDoorJoined6
import Derived.Test.YtephohhigbfafaaGreatDoorJoined7
import Derived.Test.YtephohhigbfafaaGreatDoorJoined3
import Derived.Test.YtephohhigbfafaaGreatDoorJoined11
import Derived.Test.YtephohhigbfafaaGreatDoorJoined10
import Derived.Test.YtephohhigbfafaaGreatDoorJoined1
namespace Go.Proofs.YtephohhigbfafaaGreatDoor
set_option maxHeartbeats 4000000
section
open Go.RowKit
set_option linter.unusedSimpArgs false
set_option linter.unusedVariables false
set_option maxRecDepth 8000
abbrev Lp(B G:Nat)(x:Sta)(rv cv mv:Value)(w:World):Prop:=Ply 31 B G x.rs x.cs x.ms rv cv mv w
structure LAns(B G:Nat)(w:World)(y:Sta)(w':World):Prop where
 ply:∃rv cv mv,Lp B G y rv cv mv w'
 low:Below G w w'
theorem LAns.same{B G:Nat}{x:Sta}{rv cv mv:Value}{w w':World}(h:Lp B G x rv cv mv w)(m:More w w'):LAns B G w x w':=⟨⟨rv,cv,mv,h.more m⟩,Below.mono m (Nat.le_of_lt h.blk.lt)⟩
theorem LAns.more{B G:Nat}{y:Sta}{w w1 w2:World}(h:LAns B G w y w1)(m:More w1 w2):LAns B G w y w2:=by
 obtain⟨⟨rv,cv,mv,hp⟩,hl⟩:=h;exact⟨⟨rv,cv,mv,hp.more m⟩,hl.trans (Below.mono m (Nat.le_of_lt hp.blk.lt))⟩
theorem Joi{P:Program}{C:Code}{Q:Exit->Act->World->Prop}{w:World}(k:Nat)(v:Value){a:Act}(h:a.tmps.getD k undef=v/\k < a.tmps.size)(q:C.wp P Q (a.put (some k) v) w):C.wp P Q a w:=by
 rw[<-h.1,Jg6 a k h.2]at q;exact q
def ThB(b:Bool)(L:List Int)(x:Sta):Prop:=b=true↔∃r t,L=r::t/\There x r
def J2s:List Nat:=[4,7,8,9,25,26,27,28,29,30,31,32,33,34,35,36,37,38,39,40,41,42,43,44,45,46,47,48,49,50,51,52,53,54,55,56,57,58,59,60,61,62,63,64,65,66]
theorem Jl2:(Tryz.prog.info? 2).map (fun i=>(i.zero,i.size,i.bytes))=some (some (V 0),1,8):=by kernel_rfl
theorem J5z(b:UInt8):∀(x:List UInt8) (y:List UInt8),y ∈ J09 b x->y.length<=x.length
 | [],y,h=>by simp[J09]at h;rw[h];simp
 | c::x,y,h=>by
  have ih:=J5z b x;simp only[J09]at h;by_cases e:c=b
  ·rw[if_pos e]at h
   rcases List.mem_cons.1 h with rfl | h
   ·simp
   ·have:=ih y h;simp;omega
  ·rw[if_neg e]at h
   cases q:J09 b x with
   | nil=>exact absurd q (J2j b x)
   | cons p r=>
    rw[q]at h ih;rcases List.mem_cons.1 h with rfl | h
    ·have:=ih p (by simp);simp;omega
    ·have:=ih y (by simp[h]);simp;omega

theorem Jcm{B G:Nat}{x:Sta}{rv cv mv:Value}(l:List UInt8)(w:World)(h0:Lp B G x rv cv mv w)(hw:Wf x)(HL0:LaiG G w)(hl:l.length<=1048576):
  Calls Tryz.prog 6 #[.pointer (some ⟨G,0,none⟩),.string (txt l)] w fun e w'=>∃y a,e=.returned (.string (txt a))/\SLineTo x l y a/\LAns B G w y w':=by
 suffices hP:∀P:Ending->World->Prop,(∀y a w',SLineTo x l y a->LAns B G w y w'->P (.returned (.string (txt a))) w')->Calls Tryz.prog 6 #[.pointer (some ⟨G,0,none⟩),.string (txt l)] w P from hP _ (fun y a w' h m=>⟨y,a,rfl,h,m⟩)
 intro P hP0;have HP:Hid (∀y a w',SLineTo x l y a->LAns B G w y w'->P (.returned (.string (txt a))) w'):=hP0;have HL:Hid (LaiG G w):=HL0;have Hw:Hid (Wf x):=hw;have H:Hid (Lp B G x rv cv mv w):=h0;have CS:Hid (Calls Tryz.prog 5 #[.string (txt l),.int .u8 32] w fun e w'=>∃g cap,e=.returned (.slice (some ⟨g,0,none⟩) (J09 32 l).length cap)/\w.heap.size<=g/\(∀i s,(J09 32 l)[i]?=some s->w'.cell? ⟨g,i,none⟩=some (.string (txt s)))/\(More w w'/\(J09 32 l).length<=cap)):=J7e l 32 w (by omega);have CN:Hid (∀s,s ∈ J09 32 l->∀w1,Calls Tryz.prog 8 #[.string (txt s)] w1 fun e w'=>∃v ok,e=.returned (.tuple #[V v,.bool ok])/\J63 6 s v ok/\w'=w1):=fun s hs w1=>Jas s w1 (by have:=J5z 32 l s hs;omega)
 obtain⟨i0,hi1,hi2,hi3,hi4⟩:=info_parts Jl2;have Hi:Hid (Tryz.prog.info? 2=some i0/\i0.zero=some (V 0)/\i0.size=1/\i0.bytes=8):=⟨hi1,hi2,hi3,hi4⟩
 obtain⟨h,fs,hs⟩:∃h fs,J09 32 l=h::fs:=by
  cases q:J09 32 l with
  | nil=>exact absurd q (J2j 32 l)
  | cons h fs=>exact⟨h,fs,rfl⟩
 have hlen:=(J2i 32 l).2;rw[hs]at CS CN hlen;have HS0:Hid (J09 32 l=h::fs):=hs;obtain⟨fn,Hfn⟩:∃z,Hid (fs.length=z):=⟨_,rfl⟩;have hfn:fn<=1048577:=by rw[<-Hfn.out];simp at hlen;omega
 have CS':Hid (Calls Tryz.prog 5 #[.string (txt l),.int .u8 32] w fun e w'=>∃g cap,e=.returned (.slice (some ⟨g,0,none⟩) (fn+1) cap)/\w.heap.size<=g/\(∀i s,(h::fs)[i]?=some s->w'.cell? ⟨g,i,none⟩=some (.string (txt s)))/\(More w w'/\fn+1<=cap)):=by
  have:=CS.out;rw[List.length_cons,Hfn.out]at this;exact this
 obtain⟨ss,Hss⟩:∃z,Hid (txt l=z):=⟨_,rfl⟩;rw[Hss.out]at CS' |-;clear hP0 HL0 hw h0 CS hs hlen hl hi1 hi2 hi3 hi4;go_enter Tryz.func6,Tryz.ntmps6;go_wp2_with (fail)
 refine CS'.out.mono ?_;rintro e w1 ⟨sg,scap,rfl,hsg,hcells,m1,_⟩;have Hm1:=J02 m1;have HC:=J02 hcells;clear CS' hsg hcells m1;go_wp2_with (fail)
 obtain⟨lp,Hrv,Hcv,hpin⟩:=H.out.pin;obtain⟨gs,hgs⟩:=H.out.mem;obtain⟨ml,Hmv,hraw⟩:=hgs.raw;have HPI:Hid (rv=.slice lp.ra x.rs.length lp.rc/\cv=.slice lp.ca x.cs.length lp.cc/\mv=.slice ml.ma x.ms.length ml.mc/\PIn w x.prg lp/\MRaw w x.mem ml):=⟨Hrv,Hcv,Hmv,hpin,hraw⟩;obtain⟨ma,Hma⟩:∃z,Hid (ml.ma=z):=⟨_,rfl⟩;obtain⟨mc,Hmc⟩:∃z,Hid (ml.mc=z):=⟨_,rfl⟩;obtain⟨mn,Hmn⟩:∃z,Hid (x.ms.length=z):=⟨_,rfl⟩;have Hb2:Hid (w.cell? ⟨G,2,none⟩=some (.slice ma mn mc)):=by have:=H.out.blk.cell (j:=2) rfl;rw[this,HPI.out.2.2.1,Hma.out,Hmc.out,Hmn.out];rfl
 clear Hrv Hcv hpin gs hgs Hmv hraw;apply Jne
 ·intro key
  go_loopg [6,7] fn (fun g nv kv wr=>∃(k:Nat) (va:Option Addr) (n vc:Nat),k+g=fn/\kv=V ((k:Int)+1)/\nv=.slice va n vc/\n=k/\Hid (∃L:List Int,NumsR (fs.take k) L/\L.length=k/\wr.ownsRow w1.heap.size 2 1 (.slice va n vc) n (numC L)/\More w1 wr))
  case atStart=>exact⟨0,none,0,0,by omega,rfl,rfl,rfl,[],⟨rfl,fun n hn=>by simp at hn⟩,rfl,World.ownsRow_nil _ _ _ _,More.refl _⟩
  case round=>
   obtain⟨k,va,n,vc,hkg,rfl,rfl,hnk,Hr⟩:=hrel;subst hnk;cases gk with
   | succ g=>
    have hk:n < fn:=by omega
    have hki:(n:Int)+1 < (fn:Int)+1:=by omega
    have hk0:(0:Int)<=(n:Int)+1:=by omega
    have hkN:((n:Int)+1).toNat=n+1:=by omega
    have hk63:wrap64 ((n:Int)+1+1)=(n:Int)+1+1:=by unfold wrap64;omega
    obtain⟨L,a1,a2,a3,a4⟩:=Hr.out;have HA:Hid (NumsR (fs.take n) L/\L.length=n/\wr.ownsRow w1.heap.size 2 1 (.slice va n vc) n (numC L)/\More w1 wr):=⟨a1,a2,a3,a4⟩;obtain⟨f,Hf⟩:∃f,Hid (fs[n]?=some f):=⟨_,List.getElem?_eq_getElem (by rw[Hfn.out];exact hk)⟩;have q:=a4.cell (HC.out (n+1) f (by simpa using Hf.out));have CX:=J02 (CN.out f (by simp[List.mem_of_getElem? Hf.out]) wr);obtain⟨ft,Hft⟩:∃z,Hid (txt f=z):=⟨_,rfl⟩;rw[Hft.out]at q CX;clear Hr a1 a2 a3 a4;go_wp2_with (fail)
    refine CX.out.mono ?_;rintro e w2 ⟨v,ok,rfl,hv,rfl⟩;have HV:=J02 hv;clear CX hv q;cases ok with
    | false=>
     have HE:Hid (P (.returned (.string ⟨#[63]⟩)) w2):=by
      obtain⟨_,hv⟩:false=false/\∀v',¬NumIs 6 f v':=by
       rcases HV.out with⟨q,_⟩ | q
       ·cases q
       ·exact q
      refine HP.out x [63] w2 ⟨h,fs,HS0.out,.inr ⟨fun L'=>?_,rfl,rfl⟩⟩ (LAns.same H.out (Hm1.out.trans HA.out.2.2.2))
      have e:fs=fs.take n++f::fs.drop (n+1):=by
       have:=List.getElem?_eq_some_iff.1 Hf.out;obtain⟨h1,h2⟩:=this;rw[<-h2,List.getElem_cons_drop];exact(List.take_append_drop n fs).symm
      rw[e];exact NumsR.none hv L'
     go_wp2;exact HE.out
    | true=>
     have HNum:Hid (NumsR (fs.take (n+1)) (L++[v])):=by
      have h1:=HA.out.1.snoc (by
       rcases HV.out with⟨_,q⟩ | ⟨q,_⟩
       ·exact q
       ·cases q)
      have e:fs.take (n+1)=fs.take n++[f]:=by rw[List.take_add_one,Hf.out];rfl
      rw[e];exact h1
     obtain⟨W,HW⟩:∃w_:World,Hid (w_=w2.alloc (.cells #[V v] 2)):=⟨_,rfl⟩;have HmW:Hid (More w2 W):=HW.out▸(More.refl _).alloc _ _;have HbW:Hid (Blk W w2.heap.size #[V v] 2):=HW.out▸Blk.last _ _ _;have HOW:Hid (W.ownsRow w1.heap.size 2 1 (.slice va n vc) n (numC L)):=J44 HA.out.2.2.1 HmW.out;have Hnews:Hid (∀j u,(numC [v])[j]?=some u->W.cell? ((⟨w2.heap.size,0,none⟩:Addr).add j)=some u):=World.news_of_block HbW.out;have Hlo:Hid (w1.heap.size<=W.heap.size):=Nat.le_trans HA.out.2.2.2.size HmW.out.size;have HMw:Hid (More w1 W):=HA.out.2.2.2.trans HmW.out;have HbL:Hid (∀k,(Value.slice va n vc).ownBlock=some k->w1.heap.size<=k):=fun k hk=>(HOW.out.lt k hk).1
     have Hnx:Hid (∀g3 cap3 w4,w4.ownsRow w1.heap.size 2 1 (.slice (some ⟨g3,0,none⟩) (n+1) cap3) (n+1) (numC L++numC [v])->More w1 w4->∃(k:Nat) (va:Option Addr) (m vc:Nat),k+g=fn/\Value.int .i64 ((n:Int)+1+1)=V ((k:Int)+1)/\Value.slice (some ⟨g3,0,none⟩) (n+1) cap3=.slice va m vc/\m=k/\Hid (∃L:List Int,NumsR (fs.take k) L/\L.length=k/\w4.ownsRow w1.heap.size 2 1 (.slice va m vc) m (numC L)/\More w1 w4)):=fun g3 cap3 w4 o m=>⟨n+1,_,_,_,by omega,by simp,rfl,rfl,L++[v],HNum.out,by rw[List.length_append,HA.out.2.1];rfl,by rw[Jbc];exact o,m⟩
     go_wp2_with (at_builtin;rw[<-HW.out];refine wpList_append_lies _ rfl (.tmp 43) (.tmp 45) 35 rfl w1.heap.size 2 i0 (V 0) 1 8 Tryz.underlying35 Hi.out.1 Hi.out.2.1 Hi.out.2.2.1 Hi.out.2.2.2 rfl (by decide) (.slice va n vc) n (numC L) rfl HOW.out ⟨w2.heap.size,0,none⟩ 1 1 (numC [v]) rfl rfl Hnews.out (by intro u hu;simp[numC]at hu;subst hu;rfl) (by omega) (by unfold maxLen;omega) (by omega) Hlo.out W.heap.size rfl ?_;intro g3 cap3 w4 own3 gr3 hat3 hlt3;have HX:=J02 (Hnx.out g3 cap3 w4 own3 (HMw.out.grownBy gr3 HbL.out));clear own3 gr3 hat3 hlt3)
     go_roundg g
     case measure=>omega
     case rel=>first | exact HX.out | (simp only[hk63];exact HX.out)
   | zero=>
    obtain rfl:fn=n:=by omega
    obtain⟨L,a1,a2,a3,a4⟩:=Hr.out;rw[List.take_of_length_le (by rw[Hfn.out];exact Nat.le_refl _)]at a1;obtain⟨vb,b1,b2,b3⟩:=Jek a3 a2.symm
    have F0:Hid (SIn wr va vb 0 L/\(0 < L.length->OfType wr (some vb) 2)/\fn<=vc/\L.length=fn/\(0 < fn->w1.heap.size<=vb)/\NumsR fs L/\More w1 wr):=by
     refine⟨b2,fun q=>b3 (by omega),b1,a2,fun q=>?_,a1,a4⟩;obtain rfl:=b2.ha (by omega);exact(a3.lt vb rfl).1
    have bm:wr.cell? ⟨G,2,none⟩=some (.slice ma mn mc):=(Hm1.out.trans a4).cell Hb2.out;clear Hr a1 a2 a3 a4 b1 b2 b3;by_cases hn0:fn=0
    ·obtain⟨tb,Htb⟩:∃tb:Bool,Hid (false=tb):=⟨_,rfl⟩
     have F:Hid ((SIn wr va vb 0 L/\(0 < L.length->OfType wr (some vb) 2)/\fn<=vc/\L.length=fn/\(0 < fn->w1.heap.size<=vb)/\NumsR fs L/\More w1 wr)/\ThB tb L x):=⟨F0.out,fun q=>(by rw[<-Htb.out]at q;cases q),fun⟨r,t,e,_⟩=>by have:=F0.out.2.2.2.1;rw[e]at this;simp at this;omega⟩;have d0:decide ((0:Int) < (fn:Int))=false:=by simp;omega
     have d1:decide (0 < fn)=false:=by simp;omega
     have d2:¬0 < fn:=by omega
     clear hn0 F0;go_wp2_with (fail)
     go_region
     go_simp
     rename_i K hK;refine hK _ _ ?_;clear hK;refine J82 J2s (by kernel_rfl) (fun f=>?_);simp only[J2s,List.foldl]
     go_simp
     refine Joi 10 (.bool tb) ⟨by rw[<-Htb.out];kernel_rfl,of_decide_eq_true (by kernel_rfl)⟩ ?_
     go_simp
     clear Htb;clear d0 d1 d2 bm
     revert va vc vb L tb f wr
     exact key.out
    ·obtain⟨r,t,hL⟩:∃r t,L=r::t:=by
      cases L with
      | nil=>have:=F0.out.2.2.2.1;simp at this;omega
      | cons r t=>exact⟨r,t,rfl⟩
     obtain rfl:=F0.out.1.ha (by rw[hL];simp);have q0:wr.cell? ⟨vb,0,none⟩=some (V r):=by have:=F0.out.1.cells 0 r (by rw[hL];rfl);simpa using this
     have d0:(0:Int) < (fn:Int):=by omega
     have d1:0 < fn:=by omega
     have hone:∀r' t',L=r'::t'->r'=r:=fun r' t' e=>by rw[hL]at e;cases e;rfl
     have HO:=J02 hone;have HLr:=J02 hL;have Hms:Hid (∀r':Int,There x r'↔0<=r'/\r' < (mn:Int)):=fun r'=>by unfold There;rw[Hmn.out]
     clear hone hL;by_cases hr0:0<=r
     ·by_cases hr1:r < (mn:Int)
      ·have F:Hid ((SIn wr (some ⟨vb,0,none⟩) vb 0 L/\(0 < L.length->OfType wr (some vb) 2)/\fn<=vc/\L.length=fn/\(0 < fn->w1.heap.size<=vb)/\NumsR fs L/\More w1 wr)/\ThB true L x):=⟨F0.out,fun _=>⟨r,t,HLr.out,(Hms.out r).2 ⟨hr0,hr1⟩⟩,fun _=>rfl⟩
       clear hn0 F0;go_wp2_with (fail)
       go_region
       go_simp
       rename_i K hK;refine hK _ _ ?_;clear hK;refine J82 J2s (by kernel_rfl) (fun f=>?_);simp only[J2s,List.foldl]
       go_simp
       exact key.out wr _ _ _ _ _ F f
      ·have F:Hid ((SIn wr (some ⟨vb,0,none⟩) vb 0 L/\(0 < L.length->OfType wr (some vb) 2)/\fn<=vc/\L.length=fn/\(0 < fn->w1.heap.size<=vb)/\NumsR fs L/\More w1 wr)/\ThB false L x):=⟨F0.out,fun q=>(by cases q),fun⟨r',t',e,h⟩=>absurd ((Hms.out r').1 h).2 (by rw[HO.out r' t' e];exact hr1)⟩
       have e1:decide (r < (mn:Int))=false:=decide_eq_false hr1;clear hn0 F0 hr1;go_wp2_with (fail)
       go_region
       go_simp
       rename_i K hK;refine hK _ _ ?_;clear hK;refine J82 J2s (by kernel_rfl) (fun f=>?_);simp only[J2s,List.foldl]
       go_simp
       exact key.out wr _ _ _ _ _ F f
     ·have F:Hid ((SIn wr (some ⟨vb,0,none⟩) vb 0 L/\(0 < L.length->OfType wr (some vb) 2)/\fn<=vc/\L.length=fn/\(0 < fn->w1.heap.size<=vb)/\NumsR fs L/\More w1 wr)/\ThB false L x):=⟨F0.out,fun q=>(by cases q),fun⟨r',t',e,h⟩=>absurd ((Hms.out r').1 h).1 (by rw[HO.out r' t' e];exact hr0)⟩
      have e1:decide (0<=r)=false:=decide_eq_false hr0;clear hn0 F0 hr0;go_wp2_with (fail)
      go_region
      go_simp
      rename_i K hK;refine hK _ _ ?_;clear hK;refine J82 J2s (by kernel_rfl) (fun f=>?_);simp only[J2s,List.foldl]
      go_simp
      exact key.out wr _ _ _ _ _ F f
 ·intro wr va vc L vb tb F f
  obtain⟨⟨g1,g2,g3,g4,g5,g6,g7⟩,gtb⟩:=F.out;obtain⟨wd,Hwd⟩:∃w_:World,Hid (w_=wr.drew):=⟨_,rfl⟩;have Hmd:Hid (More wr wd):=Hwd.out▸(More.refl wr).drew;rw[<-Hwd.out];have Hmw:Hid (More w wd):=(Hm1.out.trans g7).trans Hmd.out;have HQ:Hid (∀y a w',WordTo h L x y a->LAns B G wd y w'->P (.returned (.string (txt a))) w'):=fun y a w' k da=>HP.out y a w' ⟨h,fs,HS0.out,.inl ⟨L,g6,k⟩⟩ ⟨da.ply,(Below.mono Hmw.out (Nat.le_of_lt H.out.blk.lt)).trans da.low⟩
  have H1:Hid (Lp B G x rv cv mv wd):=H.out.more Hmw.out;have HL1:Hid (LaiG G wd):=HL.out.low (Below.mono Hmw.out (Nat.le_of_lt H.out.blk.lt));have Hnum:Hid (SIn wd va vb 0 L/\(0 < L.length->OfType wd (some vb) 2)/\fn<=vc/\L.length=fn/\(0 < fn->w.heap.size<=vb)/\∀v ∈ L,-999999<=v/\v<=999999):=⟨g1.more Hmd.out,fun q=>OfType.more (g2 q) Hmd.out,g3,g4,fun q=>Nat.le_trans Hm1.out.size (g5 q),g6.2⟩;have Htb:Hid (ThB tb L x):=gtb;have c0:wd.cell? ⟨sg,0,none⟩=some (.string (txt h)):=(g7.trans Hmd.out).cell (HC.out 0 h rfl);have HPI2:Hid (PIn wd x.prg lp/\MRaw wd x.mem ml):=⟨HPI.out.2.2.2.1.more Hmw.out,HPI.out.2.2.2.2.more Hmw.out⟩;have bm:wd.cell? ⟨G,2,none⟩=some (.slice ma mn mc):=Hmw.out.cell Hb2.out;have hGd:=H1.out.blk.lt;clear g1 g2 g3 g4 g5 g6 g7 gtb F CN HC HP;by_cases hiw:J4d h
  ·rcases hiw with rfl | rfl | rfl | rfl | rfl | rfl | rfl | rfl | rfl | rfl
   ·have c0:wd.cell? ⟨sg,0,none⟩=some (.string ⟨#[114,101,103,105,111,110]⟩):=c0
    by_cases hn:fn=2
    ·obtain⟨u,v,rfl⟩:=len2 (by rw[Hnum.out.2.2.2.1];exact hn)
     subst hn;obtain rfl:=Hnum.out.1.ha (by simp);have q0:wd.cell? ⟨vb,0,none⟩=some (V u):=by have:=Hnum.out.1.cells 0 u rfl;simpa using this
     have q1:wd.cell? ⟨vb,0+1,none⟩=some (V v):=by have:=Hnum.out.1.cells 1 v rfl;simpa using this
     have CX:=J02 (Jat B G x.rs x.cs x.ms rv cv mv wd H1.out (by rw[Hw.out.ml];exact Hw.out.rl) vb 0 vc u v q0 q1 (Hnum.out.2.1 (by simp)));clear q0 q1;go_wp2_with (fail)
     refine CX.out.mono ?_;rintro e w3 ⟨rs',ms',r,rv',mv',rfl,ht,hp,hb⟩;have HF:=J02 (HQ.out ⟨rs',x.cs,ms'⟩ r w3 (J4t (.inl ⟨u,v,rfl,ht,rfl⟩)) ⟨⟨_,_,_,hp⟩,hb⟩);obtain⟨R,HRR⟩:∃R,Hid (txt r=R):=⟨_,rfl⟩;rw[HRR.out]at HF |-;clear CX ht hp hb HQ;go_wp2;exact HF.out
    ·have HE:Hid (P (.returned (.string ⟨#[63]⟩)) wd):=HQ.out x [63] wd (J4t (.inr ⟨fun e=>hn (by rw[<-Hnum.out.2.2.2.1];exact e),rfl,rfl⟩)) (LAns.same H1.out (More.refl _))
     have hi:((fn:Int)==2)=false:=by simp;omega
     clear hn;clear HQ;go_wp2;exact HE.out
   ·have c0:wd.cell? ⟨sg,0,none⟩=some (.string ⟨#[102,105,108,108]⟩):=c0
    cases tb with
    | false=>
     have HE:Hid (P (.returned (.string ⟨#[63]⟩)) wd.drew):=HQ.out x [63] wd.drew (J6u (.inr ⟨fun⟨r,l,e,t,_⟩=>absurd (Htb.out.2 ⟨r,l,e,t⟩) (by simp),rfl,rfl⟩)) (LAns.same H1.out (More.refl _).drew);clear HQ;go_wp2_with (fail)
     go_region
     go_wp2;exact HE.out
    | true=>
     obtain⟨r,t,hLr,hth⟩:=Htb.out.1 rfl;obtain⟨rn,rfl⟩:=Int.eq_ofNat_of_zero_le hth.1;have hrn:rn < x.ms.length:=by have:=hth.2;omega
     subst hLr;obtain rfl:=Hnum.out.1.ha (by simp);obtain⟨gs,hgs0⟩:=H.out.mem;rw[HPI.out.2.2.1]at hgs0;have hgs:=hgs0.more Hmw.out;obtain⟨mb,g,row,hma,_,hg,hl,hgl,hcell,hblk⟩:=Ja7 hgs hrn;have hgw:g < w.heap.size:=(hgs0.blk rn g row hg hl).2.lt;obtain rfl:ma=some ⟨mb,0,none⟩:=by rw[<-Hma.out];exact hma
     have h64:=Hw.out.len row (List.mem_of_getElem? hl);obtain⟨ln,Hln⟩:∃z,Hid (row.length=z):=⟨_,rfl⟩;rw[Hln.out]at hcell h64;have hr0:(0:Int)<=rn:=by omega
     have hr1:(rn:Int) < mn:=by rw[<-Hmn.out];omega
     have hrN:((rn:Int)).toNat=rn:=by omega
     obtain⟨tn,rfl⟩:∃tn,fn=tn+1:=⟨t.length,by rw[<-Hnum.out.2.2.2.1];rfl⟩;have Htn:Hid (t.length=tn):=by have:=Hnum.out.2.2.2.1;show _=_;simp at this;omega
     have q0:wd.cell? ⟨vb,0,none⟩=some (V rn):=by have:=Hnum.out.1.cells 0 (rn:Int) rfl;simpa using this
     by_cases hlen:tn<=ln
     ·have hlen':(tn:Int)<=(ln:Int):=by omega
      have HE:Hid (∀w',LAns B G wd ⟨x.rs,x.cs,x.ms.set rn (over t row)⟩ w'->P (.returned (.string ⟨#[111,107]⟩)) w'):=fun w' hd=>HQ.out _ okW w' (J6u (.inl ⟨(rn:Int),t,rfl,hth,by rw[Int.toNat_natCast,hgl,Hln.out,Htn.out];exact hlen,by rw[Int.toNat_natCast,hgl],rfl⟩)) hd
      have HI:Hid (∀k wr,(∃rv cv,Lp B G ⟨x.rs,x.cs,x.ms.set rn (over (t.take k) row)⟩ rv cv (.slice ml.ma x.ms.length ml.mc) wr)->Words B gs (x.ms.set rn (over (t.take k) row)) (.slice ml.ma x.ms.length ml.mc) wr->k<=tn->wr.cell? ⟨G,2,none⟩=some (.slice (some ⟨mb,0,none⟩) mn mc)/\wr.cell? ⟨mb,rn,none⟩=some (.slice (some ⟨g,0,none⟩) ln ln)/\Blk wr g (J2l (over (t.take k) row)) 2):=fun k wr hd hk hks=>by
       obtain⟨rv,cv,hd⟩:=hd;have e1:=hd.blk.cell (j:=2) rfl;have hset:(x.ms.set rn (over (t.take k) row))[rn]?=some (over (t.take k) row):=by rw[List.getElem?_set];simp[hrn]
       obtain⟨mb',g',row',a1,a2,a3,a4,a5,a6,a7⟩:=Ja7 (i:=rn) hk (by simpa using hrn);rw[hma]at a1;cases a1
       rw[hg]at a3;obtain rfl:=Option.some.inj a3;rw[hset]at a4;obtain rfl:=Option.some.inj a4
       have hol:(over (t.take k) row).length=ln:=by
        rw[J38 (by rw[Hln.out];simp;omega),Hln.out]
       rw[hol]at a6;rw[hma,Hmn.out,Hmc.out]at e1;exact⟨e1,a6,a7⟩
      have HH:Hid (t.length=tn/\gs[rn]?=some g/\rn < x.ms.length/\row.length=ln/\x.ms[rn]?=some row/\¬vb=g):=⟨Htn.out,hg,hrn,Hln.out,hl,by have:=Hnum.out.2.2.2.2.1 (by omega);omega⟩
      have H0:Hid ((∃rv cv,Lp B G ⟨x.rs,x.cs,x.ms.set rn (over (t.take 0) row)⟩ rv cv (.slice ml.ma x.ms.length ml.mc) wd.drew)/\Words B gs (x.ms.set rn (over (t.take 0) row)) (.slice ml.ma x.ms.length ml.mc) wd.drew/\SIn wd.drew (some ⟨vb,0,none⟩) vb 0 ((rn:Int)::t)/\Below G wd wd.drew):=by
       have e:x.ms.set rn (over (t.take 0) row)=x.ms:=by
        have hg2:x.ms[rn]=row:=(List.getElem?_eq_some_iff.1 hl).2;show x.ms.set rn (over [] row)=x.ms;rw[Jg3,<-hg2,List.set_getElem_self]
       rw[e];have hp:=H1.out;rw[HPI.out.2.2.1]at hp;exact⟨⟨_,_,hp.more (More.refl _).drew⟩,hgs.more (More.refl _).drew,Hnum.out.1.more (More.refl _).drew,Below.mono (More.refl _).drew (Nat.le_of_lt H1.out.blk.lt)⟩
      clear HQ hgs hgs0 hth hg hl hgl hma hblk hrn hgw;have hwt:wrap64 (tn:Int)=tn:=by unfold wrap64;omega
      go_wp2_with (fail)
      go_region
      clear hwt;go_wp2_with (fail)
      clear hcell bm c0;go_loopg [11] tn (fun g' kv wr=>∃k:Nat,k+g'=tn/\kv=V ((k:Int)+1)/\Hid ((∃rv cv,Lp B G ⟨x.rs,x.cs,x.ms.set rn (over (t.take k) row)⟩ rv cv (.slice ml.ma x.ms.length ml.mc) wr)/\Words B gs (x.ms.set rn (over (t.take k) row)) (.slice ml.ma x.ms.length ml.mc) wr/\SIn wr (some ⟨vb,0,none⟩) vb 0 ((rn:Int)::t)/\Below G wd wr))
      case atStart=>exact⟨0,by omega,rfl,H0.out⟩
      case round=>
       obtain⟨k,hkg,rfl,Hr⟩:=hrel;clear H0;cases gk with
       | zero=>
        obtain rfl:k=tn:=by omega
        have HF:Hid (P (.returned (.string ⟨#[111,107]⟩)) wr):=by
         obtain⟨⟨rv,cv,a1⟩,a2,a3,a5⟩:=Hr.out;rw[List.take_of_length_le (by rw[HH.out.1];exact Nat.le_refl _)]at a1;exact HE.out wr ⟨⟨_,_,_,a1⟩,a5⟩
        clear HE HI Hr;go_wp2;exact HF.out
       | succ g'=>
        have hki:(k:Int)+1 < (tn:Int)+1:=by omega
        have hk0:(0:Int)<=(k:Int)+1:=by omega
        have hkN:((k:Int)+1).toNat=k+1:=by omega
        have hkz:(0:Int)<=(k:Int):=by omega
        have hkl:(k:Int) < ln:=by omega
        obtain⟨b2,b3,b4⟩:=HI.out k wr Hr.out.1 Hr.out.2.1 (by omega);have HB4:=J02 b4;obtain⟨v,Hv⟩:∃v,Hid (t[k]?=some v):=⟨_,List.getElem?_eq_getElem (by rw[HH.out.1];omega)⟩;have q1:=Hr.out.2.2.1.cells (k+1) v (by simpa using Hv.out);have q2:wr.cell? ⟨vb,0,none⟩=some (V rn):=by have:=Hr.out.2.2.1.cells 0 (rn:Int) rfl;simpa using this
        rw[Nat.zero_add]at q1
        have hol:(over (t.take k) row).length=ln:=by
         have h1:=HH.out.2.2.2.1;rw[J38 (by rw[h1];simp;omega),h1]
        obtain⟨u,Hu⟩:∃u,Hid (wr.cell? ⟨g,k,none⟩=some (V u)):=⟨(over (t.take k) row)[k]'(by omega),b4.cell (by simp[J2l,hol])⟩;have c4:=Hu.out;have f4:=b4.frozen k
        have HN:Hid ((∃rv cv,Lp B G ⟨x.rs,x.cs,x.ms.set rn (over (t.take (k+1)) row)⟩ rv cv (.slice ml.ma x.ms.length ml.mc) (wr.setCell ⟨g,k,none⟩ (V v)).drew)/\Words B gs (x.ms.set rn (over (t.take (k+1)) row)) (.slice ml.ma x.ms.length ml.mc) (wr.setCell ⟨g,k,none⟩ (V v)).drew/\SIn (wr.setCell ⟨g,k,none⟩ (V v)).drew (some ⟨vb,0,none⟩) vb 0 ((rn:Int)::t)/\Below G wd (wr.setCell ⟨g,k,none⟩ (V v)).drew):=by
         obtain⟨⟨rv,cv,a1⟩,a2,a3,a5⟩:=Hr.out
         have hset:(x.ms.set rn (over (t.take k) row))[rn]?=some (over (t.take k) row):=by
          have:=HH.out.2.2.1;rw[List.getElem?_set];simp[this]
         have hp:=a1.put (j:=k) gs a2 HH.out.2.1 hset (by omega) v;rw[List.set_set,Jg4 Hv.out (by have:=HH.out.2.2.2.1;omega)]at hp;have hgB:=(a2.blk rn g _ HH.out.2.1 hset).1;have hne:=HH.out.2.2.2.2.2;exact⟨⟨rv,cv,hp.1.more (More.refl _).drew⟩,hp.2.more (More.refl _).drew,⟨fun _=>rfl,fun j c hc=>(J0l wr g k (V v)).cell (a3.cells j c hc) (fun e=>hne (Option.some.inj e))⟩,(a5.setCell (p:=⟨g,k,none⟩) (by have:=a1.lo;show G<=g;omega) _).drew⟩
        obtain⟨S,HS⟩:∃S:World->Prop,Hid (∀w',S w'↔(w'.cell? ⟨G,2,none⟩=some (.slice (some ⟨mb,0,none⟩) mn mc)/\w'.cell? ⟨mb,rn,none⟩=some (.slice (some ⟨g,0,none⟩) ln ln)/\w'.cell? ⟨vb,0,none⟩=some (V rn)/\w'.cell? ⟨vb,k+1,none⟩=some (V v))):=⟨_,fun _=>Iff.rfl⟩;have k0:∀i:{ w' // S w' },i.val.cell? ⟨G,2,none⟩=some (.slice (some ⟨mb,0,none⟩) mn mc):=fun i=>((HS.out _).1 i.property).1
        have k1:∀i:{ w' // S w' },i.val.cell? ⟨mb,rn,none⟩=some (.slice (some ⟨g,0,none⟩) ln ln):=fun i=>((HS.out _).1 i.property).2.1
        have k2:∀i:{ w' // S w' },i.val.cell? ⟨vb,0,none⟩=some (V rn):=fun i=>((HS.out _).1 i.property).2.2.1
        have k3:∀i:{ w' // S w' },i.val.cell? ⟨vb,k+1,none⟩=some (V v):=fun i=>((HS.out _).1 i.property).2.2.2
        have hS:S wr.drew:=(HS.out _).2 ⟨b2,b3,q2,q1⟩;have hne:Nonempty { w' // S w' }:=⟨⟨_,hS⟩⟩;clear HE HI Hr b2 b3 b4 HB4 q1 q2;have hkw:IntKind.i64.wrap (k:Int)=k:=by rw[IntKind.wrap_i64];omega
        go_wp2_with (fail)
        refine J1m (S:=S) [] [(0,true),(1,true),(2,true),(3,true),(4,true),(5,true),(6,true),(7,true),(8,true),(9,true),(10,true),(11,true),(12,true),(13,true),(14,true),(15,true),(16,false)] (by kernel_rfl) (by kernel_rfl) (by kernel_rfl) hS ?_
        iterate 16 (refine J13 rfl (by kernel_rfl) (by kernel_rfl) (fun K hK=>?_);go_simp;refine hK _ _ ?_;clear hK K)
        clear k0 k1 k2 k3;refine J2q rfl (by kernel_rfl) (by kernel_rfl) (fun K hK=>?_)
        go_simp
        refine hK _ _ ?_;clear hK K hne hS;refine NoPanic.normal ?_;have hk63:wrap64 ((k:Int)+1+1)=(k:Int)+1+1:=by unfold wrap64;omega
        clear hkw hkl hkz hkN hk0 hki c4 f4 hol hlen hlen' h64 hr0 hr1 hrN;go_wp2;go_roundg g'
        case measure=>omega
        case rel=>exact⟨k+1,by omega,by first | rfl | simp[hk63],HN.out⟩
     ·have hlen':¬(tn:Int)<=(ln:Int):=by omega
      have d:decide ((tn:Int)<=(ln:Int))=false:=decide_eq_false hlen'
      have HE:Hid (P (.returned (.string ⟨#[63]⟩)) wd.drew):=HQ.out x [63] wd.drew (J6u (.inr ⟨fun⟨r',l',e,t',c'⟩=>by
       cases e
       rw[Int.toNat_natCast,hgl,Hln.out,Htn.out]at c';omega,rfl,rfl⟩)) (LAns.same H1.out (More.refl _).drew)
      have d2:decide (tn<=ln)=false:=decide_eq_false hlen;clear HQ hgs hgs0 hth hg hl hgl hma hblk hrn hgw h64 hlen hlen';have hwt:wrap64 (tn:Int)=tn:=by unfold wrap64;omega
      go_wp2_with (fail)
      go_region
      go_wp2;exact HE.out
   ·have c0:wd.cell? ⟨sg,0,none⟩=some (.string ⟨#[108,111,111,107]⟩):=c0
    cases tb with
    | false=>
     have HE:Hid (P (.returned (.string ⟨#[63]⟩)) wd):=HQ.out x [63] wd (J6z (.inr ⟨fun⟨r,e,t⟩=>absurd (Htb.out.2 ⟨r,[],e,t⟩) (by simp),rfl,rfl⟩)) (LAns.same H1.out (More.refl _));clear HQ;go_wp2;exact HE.out
    | true=>
     by_cases hn:fn=1
     ·obtain⟨r,t,hLr,hth⟩:=Htb.out.1 rfl
      obtain⟨rn,rfl⟩:=Int.eq_ofNat_of_zero_le hth.1;have hrn:rn < x.ms.length:=by have:=hth.2;omega
      subst hLr;obtain rfl:=Hnum.out.1.ha (by simp);obtain⟨gs,hgs⟩:=H1.out.mem;rw[HPI.out.2.2.1]at hgs;obtain⟨mb,g,row,hma,_,hg,hl,hgl,hcell,hblk⟩:=Ja7 hgs hrn;obtain rfl:ma=some ⟨mb,0,none⟩:=by rw[<-Hma.out];exact hma
      have h64:=Hw.out.len row (List.mem_of_getElem? hl);obtain⟨ln,Hln⟩:∃z,Hid (row.length=z):=⟨_,rfl⟩;rw[Hln.out]at hcell h64;have hr0:(0:Int)<=rn:=by omega
      have hr1:(rn:Int) < mn:=by rw[<-Hmn.out];omega
      have hrN:((rn:Int)).toNat=rn:=by omega
      obtain rfl:t=[]:=List.eq_nil_of_length_eq_zero (by have:=Hnum.out.2.2.2.1;simp at this;omega);subst hn;have hrow:row ∈ x.ms:=List.mem_of_getElem? hl;have HE:Hid (∀w',More wd w'->P (.returned (.string (txt (ansL isW row)))) w'):=fun w' m=>HQ.out x _ w' (J6z (.inl ⟨(rn:Int),rfl,hth,rfl,by rw[Int.toNat_natCast,hgl]⟩)) (LAns.same H1.out m)
      have CD:Hid (∀w1,More wd w1->Calls Tryz.prog 10 #[.string ⟨#[105,115]⟩,.slice (some ⟨g,0,none⟩) ln ln] w1 fun e w'=>e=.returned (.string (txt (ansL isW row)))/\More w1 w'):=fun w1 m=>by
       rw[<-Jah];exact J5a (txt isW) row _ g 0 ln ln w1 Hln.out (Hw.out.wd row hrow) (by rw[J0e];show 2+_<=_;omega) ((Jdk hblk).more m)
      obtain⟨S,HS⟩:∃S:World->Prop,Hid (∀w',S w'↔More wd w'):=⟨_,fun _=>Iff.rfl⟩;have HS0:S wd.drew:=(HS.out _).2 (More.refl _).drew;have hne:Nonempty { w' // S w' }:=⟨⟨_,HS0⟩⟩;have k0:∀i:{ w' // S w' },i.val.cell? ⟨vb,0,none⟩=some (V rn):=fun i=>((HS.out _).1 i.property).cell (by have:=Hnum.out.1.cells 0 (rn:Int) rfl;simpa using this)
      have k1:∀i:{ w' // S w' },i.val.cell? ⟨G,2,none⟩=some (.slice (some ⟨mb,0,none⟩) mn mc):=fun i=>((HS.out _).1 i.property).cell bm
      have k2:∀i:{ w' // S w' },i.val.cell? ⟨mb,rn,none⟩=some (.slice (some ⟨g,0,none⟩) ln ln):=fun i=>((HS.out _).1 i.property).cell hcell
      obtain⟨R,HR⟩:∃R,Hid (txt (ansL isW row)=R):=⟨_,rfl⟩;rw[HR.out]at CD HE;clear HQ hth hrn gs hgs hma hg hl hgl hcell hblk hrow h64;go_wp2_with (fail)
      refine J04 (S:=S) [(0,true),(1,true),(2,true),(3,true),(4,true),(5,true),(6,true),(7,true),(8,true),(9,false),(10,true)] (by kernel_rfl) (by kernel_rfl) (by kernel_rfl) HS0 ?_
      iterate 9 (refine J00 rfl (by kernel_rfl) (fun K hK=>?_);go_simp;refine hK _ _ ?_;clear hK K)
      refine J03 rfl (by kernel_rfl) (fun K hK=>?_);go_simp;refine(CD.out _ (More.refl _).drew).mono ?_;rintro e w3 ⟨rfl,m3⟩;have HF:=J02 (HE.out w3 ((More.refl _).drew.trans m3));have hS3:S w3:=(HS.out _).2 ((More.refl _).drew.trans m3)
      go_simp
      refine hK _ _ hS3 ?_;clear hK K m3 HE CD;refine J00 rfl (by kernel_rfl) (fun K hK=>?_);go_simp;refine hK _ _ ?_;clear hK K;refine J06 ?_;clear hne HS0 hS3 k0 k1 k2;go_wp2;exact HF.out
     ·have HE:Hid (P (.returned (.string ⟨#[63]⟩)) wd):=HQ.out x [63] wd (J6z (.inr ⟨fun⟨r,e,t⟩=>hn (by rw[<-Hnum.out.2.2.2.1,e];rfl),rfl,rfl⟩)) (LAns.same H1.out (More.refl _))
      have hi:((fn:Int)==1)=false:=by simp;omega
      clear hn;clear HQ;go_wp2;exact HE.out
   ·have c0:wd.cell? ⟨sg,0,none⟩=some (.string ⟨#[105,110,115]⟩):=c0
    obtain⟨ra,Hra⟩:∃z,Hid (lp.ra=z):=⟨_,rfl⟩;obtain⟨rc,Hrc⟩:∃z,Hid (lp.rc=z):=⟨_,rfl⟩;obtain⟨rl,Hrl⟩:∃z,Hid (x.rs.length=z):=⟨_,rfl⟩;obtain⟨ca,Hca⟩:∃z,Hid (lp.ca=z):=⟨_,rfl⟩;obtain⟨cc,Hcc⟩:∃z,Hid (lp.cc=z):=⟨_,rfl⟩;obtain⟨cl,Hcl⟩:∃z,Hid (x.cs.length=z):=⟨_,rfl⟩;have b0:wd.cell? ⟨G,0,none⟩=some (.slice ra rl rc):=by have:=H1.out.blk.cell (j:=0) rfl;rw[this,HPI.out.1,Hra.out,Hrc.out,Hrl.out];rfl
    have b1:wd.cell? ⟨G,1,none⟩=some (.slice ca cl cc):=by have:=H1.out.blk.cell (j:=1) rfl;rw[this,HPI.out.2.1,Hca.out,Hcc.out,Hcl.out];rfl
    have hc6:=Hw.out.cl;rw[Hcl.out]at hc6;by_cases hn:fn=5
    ·by_cases hlt:cl < 200
     ·obtain⟨o,a,b,c,n,rfl⟩:=len5 (by rw[Hnum.out.2.2.2.1];exact hn)
      subst hn;obtain rfl:=Hnum.out.1.ha (by simp);have d:(cl:Int) < 200:=by omega
      have HG:Hid (∀y r w',y=⟨x.rs,x.cs++[⟨o,a,b,c,n⟩],x.ms⟩->r=ansL okW [(cl:Int)+1]->LAns B G wd y w'->P (.returned (.string (txt r))) w'):=fun y r w' e1 e2=>HQ.out y r w' (J9v (.inl ⟨o,a,b,c,n,rfl,by rw[Hcl.out];exact hlt,e1,by rw[Hcl.out];exact e2⟩))
      clear HQ;obtain⟨j0,hj1,hj2,hj3,hj4⟩:=info_parts Jms;have Hj:Hid (Tryz.prog.info? 41=some j0/\j0.zero=some (.agg #[V 0,V 0,V 0,V 0,V 0])/\j0.size=5/\j0.bytes=40):=⟨hj1,hj2,hj3,hj4⟩;clear hj1 hj2 hj3 hj4
      have H2:Hid (Lp B G x rv (.slice ca cl cc) mv wd):=by
       have:=H1.out;rw[HPI.out.2.1,Hca.out,Hcc.out,Hcl.out]at this;exact this
      obtain⟨S,HS⟩:∃S:World->Prop,Hid (∀w',S w'↔(w'.cell? ⟨G,1,none⟩=some (.slice ca cl cc)/\SIn w' (some ⟨vb,0,none⟩) vb 0 [o,a,b,c,n])):=⟨_,fun _=>Iff.rfl⟩;have k0:∀i:{ w' // S w' },i.val.cell? ⟨G,1,none⟩=some (.slice ca cl cc):=fun i=>((HS.out _).1 i.property).1
      have k1:∀i:{ w' // S w' },i.val.cell? ⟨vb,0,none⟩=some (V o):=fun i=>by have:=((HS.out _).1 i.property).2.cells 0 o rfl;simpa using this
      have k2:∀i:{ w' // S w' },i.val.cell? ⟨vb,1,none⟩=some (V a):=fun i=>by have:=((HS.out _).1 i.property).2.cells 1 a rfl;simpa using this
      have k3:∀i:{ w' // S w' },i.val.cell? ⟨vb,2,none⟩=some (V b):=fun i=>by have:=((HS.out _).1 i.property).2.cells 2 b rfl;simpa using this
      have k4:∀i:{ w' // S w' },i.val.cell? ⟨vb,3,none⟩=some (V c):=fun i=>by have:=((HS.out _).1 i.property).2.cells 3 c rfl;simpa using this
      have k5:∀i:{ w' // S w' },i.val.cell? ⟨vb,4,none⟩=some (V n):=fun i=>by have:=((HS.out _).1 i.property).2.cells 4 n rfl;simpa using this
      have hS:S wd.drew:=(HS.out _).2 ⟨b1,Hnum.out.1.more (More.refl _).drew⟩;have hne:Nonempty { w' // S w' }:=⟨⟨_,hS⟩⟩;obtain⟨W2,HW2⟩:∃w_:World,Hid (w_=(wd.alloc (.cells #[V o,V a,V b,V c,V n] 41)).drew):=⟨_,rfl⟩;have Hm2:Hid (More wd W2):=HW2.out▸((More.refl _).alloc _ _).drew;have HQ2:Hid (Lp B G x rv (.slice ca cl cc) mv W2):=H2.out.more Hm2.out
      have Hown:Hid (W2.ownsRow B 41 5 (.slice ca cl cc) cl (celI x.cs)):=by
       have:=HQ2.out.ownC;rw[Hcl.out]at this;exact this
      have Hnews:Hid (∀i u,(celI [⟨o,a,b,c,n⟩])[i]?=some u->W2.cell? ((⟨wd.heap.size,0,none⟩:Addr).add i)=some u):=by
       have hb:Blk W2 wd.heap.size #[V o,V a,V b,V c,V n] 41:=by
        rw[HW2.out];exact(Blk.last wd _ _).drew
       exact fun i u hu=>World.news_of_block hb i u hu
      have Hsz:Hid (B<=W2.heap.size):=by have:=HQ2.out.blk.lt;have:=HQ2.out.lo;show _<=_;omega
      go_wp2_with (fail)
      refine J1m (S:=S) [24,25] [(0,true),(1,true),(2,true),(3,true),(4,true),(5,true),(6,true),(7,true),(8,true),(9,true),(10,true),(11,true),(12,true),(13,true),(14,true),(15,true),(16,true),(17,true),(18,true),(19,true),(20,true),(21,true),(22,false),(23,false),(24,true),(25,true),(26,true),(27,false)] (by kernel_rfl) (by kernel_rfl) (by kernel_rfl) hS ?_
      iterate 22 (refine J13 rfl (by kernel_rfl) (by kernel_rfl) (fun K hK=>?_);go_simp;refine hK _ _ ?_;clear hK K)
      clear k0 k1 k2 k3 k4 k5;refine J0x rfl (by kernel_rfl) (fun K hK=>?_)
      go_simp
      refine hK _ _ ((HS.out _).2 ⟨((More.refl wd).alloc _ _).drew.cell b1,Hnum.out.1.more ((More.refl wd).alloc _ _).drew⟩) ?_;clear hK K;rw[<-HW2.out];refine J0x rfl (by kernel_rfl) (fun K hK=>?_);refine wp_append_lies _ (.tmp 156) (.tmp 173) 26 rfl B 41 j0 (.agg #[V 0,V 0,V 0,V 0,V 0]) 5 40 Tryz.underlying26 Hj.out.1 Hj.out.2.1 Hj.out.2.2.1 Hj.out.2.2.2 rfl (by decide) (.slice ca cl cc) cl (celI x.cs) rfl Hown.out ⟨wd.heap.size,0,none⟩ 1 1 (celI [⟨o,a,b,c,n⟩]) rfl (by rw[J34];rfl) Hnews.out (Jak _) (by decide) (by unfold maxLen;omega) (by omega) Hsz.out _ rfl ?_;intro g3 cap3 w5 own3 gr3 hat3 hlt3;have hty:=J1u Hown.out;have B3:Blk w5 G #[rv,.slice ca cl cc,mv] 31:=HQ2.out.blk.keptT gr3 hty (by decide);have y1:=B3.cell (j:=1) rfl;have y2:=B3.frozen 1
      have S5:SIn w5 (some ⟨vb,0,none⟩) vb 0 [o,a,b,c,n]:=⟨fun _=>rfl,fun j z hz=>gr3.cell ((Hnum.out.1.more Hm2.out).cells j z hz) (fun e=>by
       obtain⟨c1,f1,q1⟩:=hty vb e.symm;obtain⟨c2,f2,q2⟩:=OfType.more (Hnum.out.2.1 (by simp)) Hm2.out vb rfl;rw[q2]at q1
       injection (Option.some.inj q1) with _ q _
       revert q;decide)⟩
      have Hr3:Hid (Lp B G ⟨x.rs,x.cs++[⟨o,a,b,c,n⟩],x.ms⟩ rv (.slice (some ⟨g3,0,none⟩) (cl+1) cap3) mv (w5.setCell ⟨G,1,none⟩ (.slice (some ⟨g3,0,none⟩) (cl+1) cap3))):=HQ2.out.addC gr3 (by rw[Hcl.out];exact own3);have Hb5:Hid (Below G wd (w5.setCell ⟨G,1,none⟩ (.slice (some ⟨g3,0,none⟩) (cl+1) cap3))):=HQ2.out.below (Below.mono Hm2.out (Nat.le_of_lt H1.out.blk.lt)) gr3 (fun k e=>(Hown.out.lt k e).1) _ _;refine hK _ _ ((HS.out _).2 ⟨y1,S5⟩) ?_;clear hK K own3 gr3 hat3 hlt3 hty S5;have hnw:Nonempty World:=⟨w⟩
      iterate 2 (refine J3d rfl (by kernel_rfl) (fun K hK=>?_);go_simp;refine hK _ _ ?_;clear hK K)
      clear hnw;refine J13 rfl (by kernel_rfl) (by kernel_rfl) (fun K hK=>?_);go_simp;refine hK _ _ ?_;clear hK K;refine J2q rfl (by kernel_rfl) (by kernel_rfl) (fun K hK=>?_)
      go_simp
      refine hK _ _ ?_;clear hK K hne hS;refine NoPanic.normal ?_;obtain⟨w6,Hw6⟩:∃w_,Hid (w_=w5.setCell ⟨G,1,none⟩ (.slice (some ⟨g3,0,none⟩) (cl+1) cap3)):=⟨_,rfl⟩;rw[<-Hw6.out]at Hr3 Hb5 |-;clear y1 y2 B3 b0 b1 bm c0;have e0:w6.cell? ⟨G,1,none⟩=some (.slice (some ⟨g3,0,none⟩) (cl+1) cap3):=Hr3.out.blk.cell rfl;have CD:Hid (∀(w1:World) (b:Nat) (T:TypeId),Blk w1 b #[V ((cl:Int)+1)] T->Calls Tryz.prog 10 #[.string ⟨#[111,107]⟩,.slice (some ⟨b,0,none⟩) 1 1] w1 fun e w'=>e=.returned (.string (txt (ansL okW [((cl:Int)+1)])))/\More w1 w'):=fun w1 b T h=>J8w okW _ w1 b T (by decide) (by unfold B64;omega) h
      have HE:Hid (∀w',More w6 w'->P (.returned (.string (txt (ansL okW [((cl:Int)+1)])))) w'):=fun w' mm=>HG.out _ _ w' rfl rfl (LAns.more ⟨⟨_,_,_,Hr3.out⟩,Hb5.out⟩ mm)
      obtain⟨R,HR⟩:∃R,Hid (txt (ansL okW [((cl:Int)+1)])=R):=⟨_,rfl⟩;rw[HR.out]at CD HE;clear HG HR;go_wp2_with (fail)
      have hb:=Blk.last w6 #[V ((cl:Int)+1)] 2;refine(CD.out _ _ _ hb).mono ?_;rintro e w11 ⟨rfl,m11⟩;have Hend:Hid (P (.returned (.string R)) w11):=HE.out w11 (((More.refl _).alloc _ _).trans m11);clear m11 HE;go_wp2;exact Hend.out
     ·have HE:Hid (P (.returned (.string ⟨#[63]⟩)) wd):=HQ.out x [63] wd (J9v (.inr ⟨fun e=>hlt (by have:=e.2;rw[Hcl.out]at this;exact this),rfl,rfl⟩)) (LAns.same H1.out (More.refl _))
      have d:decide ((cl:Int) < 200)=false:=by simp;omega
      subst hn;clear HQ hlt;go_wp2;exact HE.out
    ·have HE:Hid (P (.returned (.string ⟨#[63]⟩)) wd):=HQ.out x [63] wd (J9v (.inr ⟨fun e=>hn (by rw[<-Hnum.out.2.2.2.1];exact e.1),rfl,rfl⟩)) (LAns.same H1.out (More.refl _))
     have hi:((fn:Int)==5)=false:=by simp;omega
     clear hn;clear HQ;go_wp2;exact HE.out
   ·have c0:wd.cell? ⟨sg,0,none⟩=some (.string ⟨#[114,117,110]⟩):=c0
    obtain⟨ra,Hra⟩:∃z,Hid (lp.ra=z):=⟨_,rfl⟩;obtain⟨rc,Hrc⟩:∃z,Hid (lp.rc=z):=⟨_,rfl⟩;obtain⟨rl,Hrl⟩:∃z,Hid (x.rs.length=z):=⟨_,rfl⟩;obtain⟨ca,Hca⟩:∃z,Hid (lp.ca=z):=⟨_,rfl⟩;obtain⟨cc,Hcc⟩:∃z,Hid (lp.cc=z):=⟨_,rfl⟩;obtain⟨cl,Hcl⟩:∃z,Hid (x.cs.length=z):=⟨_,rfl⟩;have b0:wd.cell? ⟨G,0,none⟩=some (.slice ra rl rc):=by have:=H1.out.blk.cell (j:=0) rfl;rw[this,HPI.out.1,Hra.out,Hrc.out,Hrl.out];rfl
    have b1:wd.cell? ⟨G,1,none⟩=some (.slice ca cl cc):=by have:=H1.out.blk.cell (j:=1) rfl;rw[this,HPI.out.2.1,Hca.out,Hcc.out,Hcl.out];rfl
    by_cases hn:fn=1
    ·obtain⟨z,rfl⟩:=len1 (by rw[Hnum.out.2.2.2.1];exact hn)
     subst hn;obtain rfl:=Hnum.out.1.ha (by simp)
     have CX:Hid (∀w',More wd w'->Calls Tryz.prog 11 #[.agg #[.slice ra rl rc,.slice ca cl cc],.slice ma mn mc,V z] w' fun e w''=>∃c,Wr1 x.prg x.mem [] z c/\ToldR c (playI x.prg x.mem z.toNat).fin (playI x.prg x.mem z.toNat).val (playI x.prg x.mem z.toNat).steps (playI x.prg x.mem z.toNat).seen.length w' e w''):=fun w' m=>by
      rw[<-Hra.out,<-Hrc.out,<-Hrl.out,<-Hca.out,<-Hcc.out,<-Hcl.out,<-Hma.out,<-Hmc.out,<-Hmn.out];exact J7r x.prg lp x.mem ml z w' (HPI2.out.1.more m) Hw.out.fit (HPI2.out.2.more m) Hw.out.mwd
     obtain⟨S,HS⟩:∃S:World->Prop,Hid (∀w',S w'↔More wd w'):=⟨_,fun _=>Iff.rfl⟩;have HS0:S wd.drew:=(HS.out _).2 (More.refl _).drew;have hne:Nonempty { w' // S w' }:=⟨⟨_,HS0⟩⟩;have k0:∀i:{ w' // S w' },i.val.cell? ⟨vb,0,none⟩=some (V z):=fun i=>((HS.out _).1 i.property).cell (by have:=Hnum.out.1.cells 0 z rfl;simpa using this)
     have k1:∀i:{ w' // S w' },i.val.cell? ⟨G,0,none⟩=some (.slice ra rl rc):=fun i=>((HS.out _).1 i.property).cell b0
     have k2:∀i:{ w' // S w' },i.val.cell? ⟨G,1,none⟩=some (.slice ca cl cc):=fun i=>((HS.out _).1 i.property).cell b1
     have k3:∀i:{ w' // S w' },i.val.cell? ⟨G,2,none⟩=some (.slice ma mn mc):=fun i=>((HS.out _).1 i.property).cell bm
     go_wp2_with (fail)
     refine J10 (S:=S) (by kernel_rfl) HS0 ?_;refine J05 0 rfl (by kernel_rfl) HS0 (by kernel_rfl) (fun K hK=>?_);go_simp;refine hK _ _ ?_;clear hK K;refine J05 1 rfl (by kernel_rfl) HS0 (by kernel_rfl) (fun K hK=>?_);go_simp;refine hK _ _ ?_;clear hK K;refine J05 2 rfl (by kernel_rfl) HS0 (by kernel_rfl) (fun K hK=>?_);go_simp;refine hK _ _ ?_;clear hK K;refine J05 3 rfl (by kernel_rfl) HS0 (by kernel_rfl) (fun K hK=>?_);go_simp;refine hK _ _ ?_;clear hK K;refine J05 4 rfl (by kernel_rfl) HS0 (by kernel_rfl) (fun K hK=>?_);go_simp;refine hK _ _ ?_;clear hK K;refine J05 5 rfl (by kernel_rfl) HS0 (by kernel_rfl) (fun K hK=>?_);go_simp;refine hK _ _ ?_;clear hK K;refine J05 6 rfl (by kernel_rfl) HS0 (by kernel_rfl) (fun K hK=>?_);go_simp;refine hK _ _ ?_;clear hK K;refine J05 7 rfl (by kernel_rfl) HS0 (by kernel_rfl) (fun K hK=>?_);go_simp;refine hK _ _ ?_;clear hK K;refine J05 8 rfl (by kernel_rfl) HS0 (by kernel_rfl) (fun K hK=>?_);go_simp;refine hK _ _ ?_;clear hK K;refine J05 9 rfl (by kernel_rfl) HS0 (by kernel_rfl) (fun K hK=>?_);go_simp;refine hK _ _ ?_;clear hK K;refine J05 10 rfl (by kernel_rfl) HS0 (by kernel_rfl) (fun K hK=>?_);go_simp;refine hK _ _ ?_;clear hK K;obtain⟨wq,Hwq⟩:∃w_:World,Hid (w_=wd.drew):=⟨_,rfl⟩;have Hmq:Hid (More wd wq):=Hwq.out▸(More.refl _).drew;rw[<-Hwq.out];clear k0 k1 k2 k3;apply J7d
     ·intro key
      refine J2x 11 15 (by kernel_rfl) ?_ ?_
      ·refine J0b rfl (by kernel_rfl) (fun K hK=>?_);go_simp
       refine(CX.out wq Hmq.out).mono ?_;rintro e v1 ⟨c3,hw3,x1,x2,x3,a4,k4,c4,u4,rfl,hx,m1,a5,k5,c5,rfl⟩
       go_simp
       have hS1:S v1:=(HS.out _).2 (Hmq.out.trans m1);refine hK _ _ hS1 ?_;clear hK K;refine J05 12 rfl (by kernel_rfl) hS1 (by kernel_rfl) (fun K hK=>?_);go_simp;refine hK _ _ ?_;clear hK K;refine J05 13 rfl (by kernel_rfl) hS1 (by kernel_rfl) (fun K hK=>?_);go_simp;refine hK _ _ ?_;clear hK K;refine J05 14 rfl (by kernel_rfl) hS1 (by kernel_rfl) (fun K hK=>?_);go_simp;refine hK _ _ ?_;clear hK K;refine J0k 15 (by kernel_rfl) ?_;refine J0b rfl (by kernel_rfl) (fun K hK=>?_);go_simp;obtain⟨v2,Hv2⟩:∃w_:World,Hid (w_=v1.alloc (.cells #[V 0,V 0,V 0,.slice none 0 0,.slice none 0 0] 44)):=⟨_,rfl⟩
       have F:Hid (Blk v2 v1.heap.size #[V 0,V 0,V 0,.slice none 0 0,.slice none 0 0] 44/\wd.heap.size<=v1.heap.size/\More wd v2/\Wr1 x.prg x.mem [] z c3/\(c3=0->x1=(playI x.prg x.mem z.toNat).fin/\x2=(playI x.prg x.mem z.toNat).val/\x3=(playI x.prg x.mem z.toNat).steps/\k4=(playI x.prg x.mem z.toNat).seen.length)):=by
        rw[Hv2.out];exact⟨Blk.last _ _ _,(Hmq.out.trans m1).size,(Hmq.out.trans m1).alloc _ _,hw3,hx⟩
       rw[<-Hv2.out];refine hK _ _ ((HS.out _).2 F.out.2.2.1) ?_;clear hK K;refine J0p (listed':=#[true,true,true,true,true,true,true,true,true,true,true,true,true,true,true,true,false,false]) (by kernel_rfl) ?_;clear hS1 Hv2 hw3 hx m1;generalize v1.heap.size=gx at F |-;clear v1
       revert c3 x1 x2 x3 a4 k4 c4 a5 k5 c5 v2 gx
       exact key
      ·refine J0b rfl (by kernel_rfl) (fun K hK=>?_);go_simp
       obtain⟨v1,Hv1⟩:∃w_:World,Hid (w_=wq.alloc (.cells #[V 0,V 0,V 0,.slice none 0 0,.slice none 0 0] 44)):=⟨_,rfl⟩;have Hm1':Hid (More wd v1):=by rw[Hv1.out];exact Hmq.out.alloc _ _
       have Hb1:Hid (Blk v1 wq.heap.size #[V 0,V 0,V 0,.slice none 0 0,.slice none 0 0] 44):=Hv1.out▸Blk.last _ _ _;rw[<-Hv1.out];refine hK _ _ ((HS.out _).2 Hm1'.out) ?_;clear hK K;refine J0k 11 (by kernel_rfl) ?_;refine J0b rfl (by kernel_rfl) (fun K hK=>?_);go_simp;refine(CX.out v1 Hm1'.out).mono ?_;rintro e v2 ⟨c3,hw3,x1,x2,x3,a4,k4,c4,u4,rfl,hx,m1,a5,k5,c5,rfl⟩
       go_simp
       have hS1:S v2:=(HS.out _).2 (Hm1'.out.trans m1);refine hK _ _ hS1 ?_;clear hK K;refine J05 12 rfl (by kernel_rfl) hS1 (by kernel_rfl) (fun K hK=>?_);go_simp;refine hK _ _ ?_;clear hK K;refine J05 13 rfl (by kernel_rfl) hS1 (by kernel_rfl) (fun K hK=>?_);go_simp;refine hK _ _ ?_;clear hK K;refine J05 14 rfl (by kernel_rfl) hS1 (by kernel_rfl) (fun K hK=>?_);go_simp;refine hK _ _ ?_;clear hK K;have F:Hid (Blk v2 wq.heap.size #[V 0,V 0,V 0,.slice none 0 0,.slice none 0 0] 44/\wd.heap.size<=wq.heap.size/\More wd v2/\Wr1 x.prg x.mem [] z c3/\(c3=0->x1=(playI x.prg x.mem z.toNat).fin/\x2=(playI x.prg x.mem z.toNat).val/\x3=(playI x.prg x.mem z.toNat).steps/\k4=(playI x.prg x.mem z.toNat).seen.length)):=⟨Hb1.out.more m1,Hmq.out.size,Hm1'.out.trans m1,hw3,hx⟩;refine J0p (listed':=#[true,true,true,true,true,true,true,true,true,true,true,true,true,true,true,true,false,false]) (by kernel_rfl) ?_;exact key c3 x1 x2 x3 a4 k4 c4 a5 k5 c5 v2 _ F
     ·intro c3 x1 x2 x3 a4 k4 c4 a5 k5 c5 v2 gx F
      have hrb:c3=0->RunB x1 x2 x3 k4:=fun q=>by
       obtain⟨rfl,rfl,rfl,rfl⟩:=F.out.2.2.2.2 q;have hw:=F.out.2.2.2.1;rw[q]at hw;exact Jjd hw Hw.out.fit Hw.out.mwd
      have hc3:B64 c3:=by
       rcases F.out.2.2.2.1 with⟨_,rfl⟩ | ⟨_,_,rfl⟩ | ⟨_,_,_,rfl⟩<;>(unfold B64;decide)
      have HE:Hid (∀w',More wd w'->P (.returned (.string (txt (ranL c3 x1 x2 x3 k4)))) w'):=fun w' m=>HQ.out x _ w' (Jd5 (.inl ⟨z,rfl,rfl,c3,F.out.2.2.2.1,by
       by_cases q:c3=0
       ·obtain⟨rfl,rfl,rfl,rfl⟩:=F.out.2.2.2.2 q
        rfl
       ·rw[ranL,if_neg q,ranL,if_neg q]⟩)) (LAns.same H1.out m)
      have CY:Hid (∀w1,Calls Tryz.prog 12 #[.agg #[V x1,V x2,V x3,.slice a4 k4 c4,.slice a5 k5 c5],V c3] w1 fun e w'=>e=.returned (.string (txt (ranL c3 x1 x2 x3 k4)))/\More w1 w'):=fun w1=>Jd2 x1 x2 x3 c3 a4 k4 c4 _ w1 hc3 hrb
      obtain⟨R,HR⟩:∃R,Hid (txt (ranL c3 x1 x2 x3 k4)=R):=⟨_,rfl⟩;rw[HR.out]at CY HE;have q0:=F.out.1.cell (j:=0) rfl;have q1:=F.out.1.cell (j:=1) rfl;have q2:=F.out.1.cell (j:=2) rfl;have q3:=F.out.1.cell (j:=3) rfl;have q4:=F.out.1.cell (j:=4) rfl;have z0:=F.out.1.frozen 0;have z1:=F.out.1.frozen 1;have z2:=F.out.1.frozen 2;have z3:=F.out.1.frozen 3;have z4:=F.out.1.frozen 4;have hgx:=F.out.1.lt;obtain⟨v4,Hv4⟩:∃w_:World,Hid (w_=((((v2.setCell ⟨gx,0,none⟩ (V x1)).setCell ⟨gx,1,none⟩ (V x2)).setCell ⟨gx,2,none⟩ (V x3)).setCell ⟨gx,3,none⟩ (.slice a4 k4 c4)).setCell ⟨gx,4,none⟩ (.slice a5 k5 c5)):=⟨_,rfl⟩
      have HB4:Hid (Blk v4 gx #[V x1,V x2,V x3,.slice a4 k4 c4,.slice a5 k5 c5] 44):=by
       rw[Hv4.out];have:=((((F.out.1.put 0 (V x1)).put 1 (V x2)).put 2 (V x3)).put 3 (.slice a4 k4 c4)).put 4 (.slice a5 k5 c5);show Blk _ _ _ _;simpa using this
      have Hm4:Hid (More wd v4):=by
       rw[Hv4.out];have h0:=F.out.2.1;exact((((F.out.2.2.1.setCell (a:=⟨gx,0,none⟩) h0 _).setCell (a:=⟨gx,1,none⟩) h0 _).setCell (a:=⟨gx,2,none⟩) h0 _).setCell (a:=⟨gx,3,none⟩) h0 _).setCell (a:=⟨gx,4,none⟩) h0 _
      have hS4:S v4:=(HS.out _).2 Hm4.out;clear hrb hc3 HQ F;refine J0k 16 (by kernel_rfl) ?_;refine J0b rfl (by kernel_rfl) (fun K hK=>?_);go_simp;rw[<-Hv4.out];refine hK _ _ hS4 ?_;clear hK K q0 q1 q2 q3 q4 z0 z1 z2 z3 z4 hgx Hv4;refine J05 17 rfl (by kernel_rfl) hS4 (by kernel_rfl) (fun K hK=>?_);go_simp;refine hK _ _ ?_;clear hK K;refine J4r (by kernel_rfl) ?_;have q0:=HB4.out.cell (j:=0) rfl;have q1:=HB4.out.cell (j:=1) rfl;have q2:=HB4.out.cell (j:=2) rfl;have q3:=HB4.out.cell (j:=3) rfl;have q4:=HB4.out.cell (j:=4) rfl;clear hne HS0 hS4 b0 b1 bm c0;go_wp2_with (fail)
      refine(CY.out _).mono ?_;rintro e v5 ⟨rfl,m5⟩;have HF:=J02 (HE.out v5 (Hm4.out.trans m5));clear CY m5 HE q0 q1 q2 q3 q4;go_wp2;exact HF.out
    ·have HE:Hid (P (.returned (.string ⟨#[63]⟩)) wd):=HQ.out x [63] wd (Jd5 (.inr ⟨fun e=>hn (by rw[<-Hnum.out.2.2.2.1];exact e),rfl,rfl⟩)) (LAns.same H1.out (More.refl _))
     have hi:((fn:Int)==1)=false:=by simp;omega
     clear hn;clear HQ;go_wp2;exact HE.out
   ·have c0:wd.cell? ⟨sg,0,none⟩=some (.string ⟨#[97,104,101,97,100]⟩):=c0
    obtain⟨ra,Hra⟩:∃z,Hid (lp.ra=z):=⟨_,rfl⟩;obtain⟨rc,Hrc⟩:∃z,Hid (lp.rc=z):=⟨_,rfl⟩;obtain⟨rl,Hrl⟩:∃z,Hid (x.rs.length=z):=⟨_,rfl⟩;obtain⟨ca,Hca⟩:∃z,Hid (lp.ca=z):=⟨_,rfl⟩;obtain⟨cc,Hcc⟩:∃z,Hid (lp.cc=z):=⟨_,rfl⟩;obtain⟨cl,Hcl⟩:∃z,Hid (x.cs.length=z):=⟨_,rfl⟩;have b0:wd.cell? ⟨G,0,none⟩=some (.slice ra rl rc):=by have:=H1.out.blk.cell (j:=0) rfl;rw[this,HPI.out.1,Hra.out,Hrc.out,Hrl.out];rfl
    have b1:wd.cell? ⟨G,1,none⟩=some (.slice ca cl cc):=by have:=H1.out.blk.cell (j:=1) rfl;rw[this,HPI.out.2.1,Hca.out,Hcc.out,Hcl.out];rfl
    by_cases hn:1<=fn
    ·obtain⟨z,t,rfl⟩:∃z t,L=z::t:=by
      cases L with
      | nil=>have:=Hnum.out.2.2.2.1;simp at this;omega
      | cons z t=>exact⟨z,t,rfl⟩
     obtain⟨tn,rfl⟩:∃tn,fn=tn+1:=⟨fn - 1,by omega⟩;have Htn:Hid (t.length=tn):=by have:=Hnum.out.2.2.2.1;show _=_;simp at this;omega
     obtain rfl:=Hnum.out.1.ha (by simp);have hn1:(1:Int)<=(tn:Int)+1:=by omega
     clear hn
     have CX:Hid (∀(sa:Option Addr) (sb sn sc:Nat) w',More wd w'->t.length=sn->sn<=sc->SIn w' sa sb 0 t->Calls Tryz.prog 13 #[.agg #[.slice ra rl rc,.slice ca cl cc],.slice ma mn mc,.slice sa sn sc,V z] w' fun e w''=>∃c,Wr1 x.prg x.mem t z c/\ToldR c (playS x.prg (flatM x.mem) t z.toNat).fin (playS x.prg (flatM x.mem) t z.toNat).val (playS x.prg (flatM x.mem) t z.toNat).steps (playS x.prg (flatM x.mem) t z.toNat).seen.length w' e w''):=fun sa sb sn sc w' m h1 h2 h3=>by
      rw[<-Hra.out,<-Hrc.out,<-Hrl.out,<-Hca.out,<-Hcc.out,<-Hcl.out,<-Hma.out,<-Hmc.out,<-Hmn.out];exact J6n x.prg lp x.mem ml sa sb 0 sn sc t z w' (HPI2.out.1.more m) Hw.out.fit (HPI2.out.2.more m) Hw.out.mwd h1 h2 h3
     obtain⟨i1,hj1,hj2,hj3,hj4⟩:=info_parts Jfv;have Hj:Hid (Tryz.prog.info? 3=some i1/\i1.zero=some (V 0)/\i1.size=1/\i1.bytes=8):=⟨hj1,hj2,hj3,hj4⟩;clear hj1 hj2 hj3 hj4;go_wp2_with (fail)
     go_loopg [14,15] tn (fun g sv kv wr=>∃(k:Nat) (sa:Option Addr) (sn sc:Nat),k+g=tn/\kv=V ((k:Int)+1)/\sv=.slice sa sn sc/\sn=k/\Hid (wr.ownsRow wd.heap.size 3 1 (.slice sa sn sc) sn (numC (t.take k))/\More wd wr))
     case atStart=>exact⟨0,none,0,0,by omega,rfl,rfl,rfl,World.ownsRow_nil _ _ _ _,More.refl _⟩
     case round=>
      obtain⟨k,sa,sn,sc,hkg,rfl,rfl,hsk,Hr⟩:=hrel;subst hsk;cases gk with
      | succ g=>
       have hki:(sn:Int)+1 < (tn:Int)+1:=by omega
       have hk0:(0:Int)<=(sn:Int)+1:=by omega
       have hkN:((sn:Int)+1).toNat=sn+1:=by omega
       have hk63:wrap64 ((sn:Int)+1+1)=(sn:Int)+1+1:=by unfold wrap64;omega
       obtain⟨v,Hv⟩:∃v,Hid (t[sn]?=some v):=⟨_,List.getElem?_eq_getElem (by rw[Htn.out];omega)⟩;have q:=Hr.out.2.cell (Hnum.out.1.cells (sn+1) v (by simpa using Hv.out));rw[Nat.zero_add]at q;obtain⟨W,HW⟩:∃w_:World,Hid (w_=wr.alloc (.cells #[V v] 3)):=⟨_,rfl⟩;have HmW:Hid (More wr W):=HW.out▸(More.refl _).alloc _ _;have HbW:Hid (Blk W wr.heap.size #[V v] 3):=HW.out▸Blk.last _ _ _;have HOW:Hid (W.ownsRow wd.heap.size 3 1 (.slice sa sn sc) sn (numC (t.take sn))):=J44 Hr.out.1 HmW.out;have Hnews:Hid (∀j u,(numC [v])[j]?=some u->W.cell? ((⟨wr.heap.size,0,none⟩:Addr).add j)=some u):=World.news_of_block HbW.out;have Hlo:Hid (wd.heap.size<=W.heap.size):=Nat.le_trans Hr.out.2.size HmW.out.size;have HMw:Hid (More wd W):=Hr.out.2.trans HmW.out;have HbL:Hid (∀k,(Value.slice sa sn sc).ownBlock=some k->wd.heap.size<=k):=fun k hk=>(HOW.out.lt k hk).1
       have Hnx:Hid (∀g3 cap3 w4,w4.ownsRow wd.heap.size 3 1 (.slice (some ⟨g3,0,none⟩) (sn+1) cap3) (sn+1) (numC (t.take sn)++numC [v])->More wd w4->∃(k:Nat) (sa:Option Addr) (m sc:Nat),k+g=tn/\Value.int .i64 ((sn:Int)+1+1)=V ((k:Int)+1)/\Value.slice (some ⟨g3,0,none⟩) (sn+1) cap3=.slice sa m sc/\m=k/\Hid (w4.ownsRow wd.heap.size 3 1 (.slice sa m sc) m (numC (t.take k))/\More wd w4)):=fun g3 cap3 w4 o m=>⟨sn+1,_,_,_,by omega,by simp,rfl,rfl,by rw[List.take_add_one,Hv.out];show _;rw[Option.toList_some,Jbc];exact o,m⟩
       clear HQ;go_wp2_with (at_builtin;rw[<-HW.out];refine wpList_append_lies _ rfl (.tmp 220) (.tmp 225) 49 rfl wd.heap.size 3 i1 (V 0) 1 8 Tryz.underlying49 Hj.out.1 Hj.out.2.1 Hj.out.2.2.1 Hj.out.2.2.2 rfl (by decide) (.slice sa sn sc) sn (numC (t.take sn)) rfl HOW.out ⟨wr.heap.size,0,none⟩ 1 1 (numC [v]) rfl rfl Hnews.out (by intro u hu;simp[numC]at hu;subst hu;rfl) (by omega) (by unfold maxLen;omega) (by omega) Hlo.out W.heap.size rfl ?_;intro g3 cap3 w4 own3 gr3 hat3 hlt3;have HX:=J02 (Hnx.out g3 cap3 w4 own3 (HMw.out.grownBy gr3 HbL.out));clear own3 gr3 hat3 hlt3)
       go_roundg g
       case measure=>omega
       case rel=>first | exact HX.out | (simp only[hk63];exact HX.out)
      | zero=>
       obtain rfl:sn=tn:=by omega
       have hown:=Hr.out.1;rw[List.take_of_length_le (by rw[Htn.out];exact Nat.le_refl _)]at hown;obtain⟨sb,s1,s2,_⟩:=Jek hown Htn.out.symm;have HSS:Hid (SIn wr sa sb 0 t/\sn<=sc):=⟨s2,s1⟩;have Hmr:Hid (More wd wr):=Hr.out.2;clear hown s1 s2 Hr;obtain⟨CR⟩:Nonempty (∀w',More wr w'->Calls Tryz.prog 13 #[.agg #[.slice ra rl rc,.slice ca cl cc],.slice ma mn mc,.slice sa sn sc,V z] w' fun e w''=>∃c,Wr1 x.prg x.mem t z c/\ToldR c (playS x.prg (flatM x.mem) t z.toNat).fin (playS x.prg (flatM x.mem) t z.toNat).val (playS x.prg (flatM x.mem) t z.toNat).steps (playS x.prg (flatM x.mem) t z.toNat).seen.length w' e w''):=⟨fun w' m=>CX.out sa sb sn sc w' (Hmr.out.trans m) Htn.out HSS.out.2 (HSS.out.1.more m)⟩;have CZ:=J02 CR;clear CR CX;have HQ2:Hid (∀y a w',WordTo J86 (z::t) x y a->LAns B G wr y w'->P (.returned (.string (txt a))) w'):=fun y a w' k da=>HQ.out y a w' k ⟨da.ply,(Below.mono Hmr.out (Nat.le_of_lt H1.out.blk.lt)).trans da.low⟩
       have H2:Hid (Lp B G x rv cv mv wr):=H1.out.more Hmr.out;have n0:wr.cell? ⟨vb,0,none⟩=some (V z):=Hmr.out.cell (by have:=Hnum.out.1.cells 0 z rfl;simpa using this);have b0':=Hmr.out.cell b0;have b1':=Hmr.out.cell b1;have bm':=Hmr.out.cell bm;obtain⟨S,HS⟩:∃S:World->Prop,Hid (∀w',S w'↔More wr w'):=⟨_,fun _=>Iff.rfl⟩;have HS0:S wr.drew:=(HS.out _).2 (More.refl _).drew;have hne:Nonempty { w' // S w' }:=⟨⟨_,HS0⟩⟩;have k0:∀i:{ w' // S w' },i.val.cell? ⟨vb,0,none⟩=some (V z):=fun i=>((HS.out _).1 i.property).cell n0
       have k1:∀i:{ w' // S w' },i.val.cell? ⟨G,0,none⟩=some (.slice ra rl rc):=fun i=>((HS.out _).1 i.property).cell b0'
       have k2:∀i:{ w' // S w' },i.val.cell? ⟨G,1,none⟩=some (.slice ca cl cc):=fun i=>((HS.out _).1 i.property).cell b1'
       have k3:∀i:{ w' // S w' },i.val.cell? ⟨G,2,none⟩=some (.slice ma mn mc):=fun i=>((HS.out _).1 i.property).cell bm'
       go_wp2_with (fail)
       refine J10 (S:=S) (by kernel_rfl) HS0 ?_;refine J05 0 rfl (by kernel_rfl) HS0 (by kernel_rfl) (fun K hK=>?_);go_simp;refine hK _ _ ?_;clear hK K;refine J05 1 rfl (by kernel_rfl) HS0 (by kernel_rfl) (fun K hK=>?_);go_simp;refine hK _ _ ?_;clear hK K;refine J05 2 rfl (by kernel_rfl) HS0 (by kernel_rfl) (fun K hK=>?_);go_simp;refine hK _ _ ?_;clear hK K;refine J05 3 rfl (by kernel_rfl) HS0 (by kernel_rfl) (fun K hK=>?_);go_simp;refine hK _ _ ?_;clear hK K;refine J05 4 rfl (by kernel_rfl) HS0 (by kernel_rfl) (fun K hK=>?_);go_simp;refine hK _ _ ?_;clear hK K;refine J05 5 rfl (by kernel_rfl) HS0 (by kernel_rfl) (fun K hK=>?_);go_simp;refine hK _ _ ?_;clear hK K;refine J05 6 rfl (by kernel_rfl) HS0 (by kernel_rfl) (fun K hK=>?_);go_simp;refine hK _ _ ?_;clear hK K;refine J05 7 rfl (by kernel_rfl) HS0 (by kernel_rfl) (fun K hK=>?_);go_simp;refine hK _ _ ?_;clear hK K;refine J05 8 rfl (by kernel_rfl) HS0 (by kernel_rfl) (fun K hK=>?_);go_simp;refine hK _ _ ?_;clear hK K;refine J05 9 rfl (by kernel_rfl) HS0 (by kernel_rfl) (fun K hK=>?_);go_simp;refine hK _ _ ?_;clear hK K;refine J05 10 rfl (by kernel_rfl) HS0 (by kernel_rfl) (fun K hK=>?_);go_simp;refine hK _ _ ?_;clear hK K;refine J05 11 rfl (by kernel_rfl) HS0 (by kernel_rfl) (fun K hK=>?_);go_simp;refine hK _ _ ?_;clear hK K;obtain⟨wq,Hwq⟩:∃w_:World,Hid (w_=wr.drew):=⟨_,rfl⟩;have Hmq:Hid (More wr wq):=Hwq.out▸(More.refl _).drew
       rw[<-Hwq.out];clear k0 k1 k2 k3;apply J7d
       ·intro key
        refine J2x 12 16 (by kernel_rfl) ?_ ?_
        ·refine J0b rfl (by kernel_rfl) (fun K hK=>?_);go_simp
         refine(CZ.out wq Hmq.out).mono ?_;rintro e v1 ⟨c3,hw3,x1,x2,x3,a4,k4,c4,u4,rfl,hx,m1,a5,k5,c5,rfl⟩
         go_simp
         have hS1:S v1:=(HS.out _).2 (Hmq.out.trans m1);refine hK _ _ hS1 ?_;clear hK K;refine J05 13 rfl (by kernel_rfl) hS1 (by kernel_rfl) (fun K hK=>?_);go_simp;refine hK _ _ ?_;clear hK K;refine J05 14 rfl (by kernel_rfl) hS1 (by kernel_rfl) (fun K hK=>?_);go_simp;refine hK _ _ ?_;clear hK K;refine J05 15 rfl (by kernel_rfl) hS1 (by kernel_rfl) (fun K hK=>?_);go_simp;refine hK _ _ ?_;clear hK K;refine J0k 16 (by kernel_rfl) ?_;refine J0b rfl (by kernel_rfl) (fun K hK=>?_);go_simp;obtain⟨v2,Hv2⟩:∃w_:World,Hid (w_=v1.alloc (.cells #[V 0,V 0,V 0,.slice none 0 0,.slice none 0 0] 44)):=⟨_,rfl⟩
         have F:Hid (Blk v2 v1.heap.size #[V 0,V 0,V 0,.slice none 0 0,.slice none 0 0] 44/\wr.heap.size<=v1.heap.size/\More wr v2/\Wr1 x.prg x.mem t z c3/\(c3=0->x1=(playS x.prg (flatM x.mem) t z.toNat).fin/\x2=(playS x.prg (flatM x.mem) t z.toNat).val/\x3=(playS x.prg (flatM x.mem) t z.toNat).steps/\k4=(playS x.prg (flatM x.mem) t z.toNat).seen.length)):=by
          rw[Hv2.out];exact⟨Blk.last _ _ _,(Hmq.out.trans m1).size,(Hmq.out.trans m1).alloc _ _,hw3,hx⟩
         rw[<-Hv2.out];refine hK _ _ ((HS.out _).2 F.out.2.2.1) ?_;clear hK K;refine J0p (listed':=#[true,true,true,true,true,true,true,true,true,true,true,true,true,true,true,true,true,false,false]) (by kernel_rfl) ?_;clear hS1 Hv2 hw3 hx m1;generalize v1.heap.size=gx at F |-;clear v1
         revert c3 x1 x2 x3 a4 k4 c4 a5 k5 c5 v2 gx
         exact key
        ·refine J0b rfl (by kernel_rfl) (fun K hK=>?_);go_simp
         obtain⟨v1,Hv1⟩:∃w_:World,Hid (w_=wq.alloc (.cells #[V 0,V 0,V 0,.slice none 0 0,.slice none 0 0] 44)):=⟨_,rfl⟩;have Hm1':Hid (More wr v1):=by rw[Hv1.out];exact Hmq.out.alloc _ _
         have Hb1:Hid (Blk v1 wq.heap.size #[V 0,V 0,V 0,.slice none 0 0,.slice none 0 0] 44):=Hv1.out▸Blk.last _ _ _;rw[<-Hv1.out];refine hK _ _ ((HS.out _).2 Hm1'.out) ?_;clear hK K;refine J0k 12 (by kernel_rfl) ?_;refine J0b rfl (by kernel_rfl) (fun K hK=>?_);go_simp;refine(CZ.out v1 Hm1'.out).mono ?_;rintro e v2 ⟨c3,hw3,x1,x2,x3,a4,k4,c4,u4,rfl,hx,m1,a5,k5,c5,rfl⟩
         go_simp
         have hS1:S v2:=(HS.out _).2 (Hm1'.out.trans m1);refine hK _ _ hS1 ?_;clear hK K;refine J05 13 rfl (by kernel_rfl) hS1 (by kernel_rfl) (fun K hK=>?_);go_simp;refine hK _ _ ?_;clear hK K;refine J05 14 rfl (by kernel_rfl) hS1 (by kernel_rfl) (fun K hK=>?_);go_simp;refine hK _ _ ?_;clear hK K;refine J05 15 rfl (by kernel_rfl) hS1 (by kernel_rfl) (fun K hK=>?_);go_simp;refine hK _ _ ?_;clear hK K;have F:Hid (Blk v2 wq.heap.size #[V 0,V 0,V 0,.slice none 0 0,.slice none 0 0] 44/\wr.heap.size<=wq.heap.size/\More wr v2/\Wr1 x.prg x.mem t z c3/\(c3=0->x1=(playS x.prg (flatM x.mem) t z.toNat).fin/\x2=(playS x.prg (flatM x.mem) t z.toNat).val/\x3=(playS x.prg (flatM x.mem) t z.toNat).steps/\k4=(playS x.prg (flatM x.mem) t z.toNat).seen.length)):=⟨Hb1.out.more m1,Hmq.out.size,Hm1'.out.trans m1,hw3,hx⟩;refine J0p (listed':=#[true,true,true,true,true,true,true,true,true,true,true,true,true,true,true,true,true,false,false]) (by kernel_rfl) ?_;exact key c3 x1 x2 x3 a4 k4 c4 a5 k5 c5 v2 _ F
       ·intro c3 x1 x2 x3 a4 k4 c4 a5 k5 c5 v2 gx F
        have hrb:c3=0->RunB x1 x2 x3 k4:=fun q=>by
         obtain⟨rfl,rfl,rfl,rfl⟩:=F.out.2.2.2.2 q;have hw:=F.out.2.2.2.1;rw[q]at hw;exact Jje hw Hw.out.fit Hw.out.mwd
        have hc3:B64 c3:=by
         rcases F.out.2.2.2.1 with⟨_,rfl⟩ | ⟨_,_,rfl⟩ | ⟨_,_,_,rfl⟩<;>(unfold B64;decide)
        have HE:Hid (∀w',More wr w'->P (.returned (.string (txt (ranL c3 x1 x2 x3 k4)))) w'):=fun w' m=>HQ2.out x _ w' (J64 (.inl ⟨z,t,rfl,rfl,c3,F.out.2.2.2.1,by
         by_cases q:c3=0
         ·obtain⟨rfl,rfl,rfl,rfl⟩:=F.out.2.2.2.2 q
          rfl
         ·rw[ranL,if_neg q,ranL,if_neg q]⟩)) (LAns.same H2.out m)
        have CY:Hid (∀w1,Calls Tryz.prog 12 #[.agg #[V x1,V x2,V x3,.slice a4 k4 c4,.slice a5 k5 c5],V c3] w1 fun e w'=>e=.returned (.string (txt (ranL c3 x1 x2 x3 k4)))/\More w1 w'):=fun w1=>Jd2 x1 x2 x3 c3 a4 k4 c4 _ w1 hc3 hrb
        obtain⟨R,HR⟩:∃R,Hid (txt (ranL c3 x1 x2 x3 k4)=R):=⟨_,rfl⟩;rw[HR.out]at CY HE;have q0:=F.out.1.cell (j:=0) rfl;have q1:=F.out.1.cell (j:=1) rfl;have q2:=F.out.1.cell (j:=2) rfl;have q3:=F.out.1.cell (j:=3) rfl;have q4:=F.out.1.cell (j:=4) rfl;have z0:=F.out.1.frozen 0;have z1:=F.out.1.frozen 1;have z2:=F.out.1.frozen 2;have z3:=F.out.1.frozen 3;have z4:=F.out.1.frozen 4;have hgx:=F.out.1.lt;obtain⟨v4,Hv4⟩:∃w_:World,Hid (w_=((((v2.setCell ⟨gx,0,none⟩ (V x1)).setCell ⟨gx,1,none⟩ (V x2)).setCell ⟨gx,2,none⟩ (V x3)).setCell ⟨gx,3,none⟩ (.slice a4 k4 c4)).setCell ⟨gx,4,none⟩ (.slice a5 k5 c5)):=⟨_,rfl⟩
        have HB4:Hid (Blk v4 gx #[V x1,V x2,V x3,.slice a4 k4 c4,.slice a5 k5 c5] 44):=by
         rw[Hv4.out];have:=((((F.out.1.put 0 (V x1)).put 1 (V x2)).put 2 (V x3)).put 3 (.slice a4 k4 c4)).put 4 (.slice a5 k5 c5);show Blk _ _ _ _;simpa using this
        have Hm4:Hid (More wr v4):=by
         rw[Hv4.out];have h0:=F.out.2.1;exact((((F.out.2.2.1.setCell (a:=⟨gx,0,none⟩) h0 _).setCell (a:=⟨gx,1,none⟩) h0 _).setCell (a:=⟨gx,2,none⟩) h0 _).setCell (a:=⟨gx,3,none⟩) h0 _).setCell (a:=⟨gx,4,none⟩) h0 _
        have hS4:S v4:=(HS.out _).2 Hm4.out;clear hrb hc3 HQ HQ2 F;refine J0k 17 (by kernel_rfl) ?_;refine J0b rfl (by kernel_rfl) (fun K hK=>?_);go_simp;rw[<-Hv4.out];refine hK _ _ hS4 ?_;clear hK K q0 q1 q2 q3 q4 z0 z1 z2 z3 z4 hgx Hv4;refine J05 18 rfl (by kernel_rfl) hS4 (by kernel_rfl) (fun K hK=>?_);go_simp;refine hK _ _ ?_;clear hK K;refine J4r (by kernel_rfl) ?_;have q0:=HB4.out.cell (j:=0) rfl;have q1:=HB4.out.cell (j:=1) rfl;have q2:=HB4.out.cell (j:=2) rfl;have q3:=HB4.out.cell (j:=3) rfl;have q4:=HB4.out.cell (j:=4) rfl;clear hne HS0 hS4 b0 b1 bm c0 b0' b1' bm' n0;go_wp2_with (fail)
        refine(CY.out _).mono ?_;rintro e v5 ⟨rfl,m5⟩;have HF:=J02 (HE.out v5 (Hm4.out.trans m5));clear CY m5 HE q0 q1 q2 q3 q4;go_wp2;exact HF.out
    ·have HE:Hid (P (.returned (.string ⟨#[63]⟩)) wd):=HQ.out x [63] wd (J64 (.inr ⟨List.eq_nil_of_length_eq_zero (by rw[Hnum.out.2.2.2.1];omega),rfl,rfl⟩)) (LAns.same H1.out (More.refl _))
     have d:decide ((1:Int)<=(fn:Int))=false:=by simp;omega
     clear HQ hn;go_wp2;exact HE.out
   ·have c0:wd.cell? ⟨sg,0,none⟩=some (.string ⟨#[99,104,101,99,107]⟩):=c0
    obtain⟨ra,Hra⟩:∃z,Hid (lp.ra=z):=⟨_,rfl⟩;obtain⟨rc,Hrc⟩:∃z,Hid (lp.rc=z):=⟨_,rfl⟩;obtain⟨rl,Hrl⟩:∃z,Hid (x.rs.length=z):=⟨_,rfl⟩;obtain⟨ca,Hca⟩:∃z,Hid (lp.ca=z):=⟨_,rfl⟩;obtain⟨cc,Hcc⟩:∃z,Hid (lp.cc=z):=⟨_,rfl⟩;obtain⟨cl,Hcl⟩:∃z,Hid (x.cs.length=z):=⟨_,rfl⟩;have b0:wd.cell? ⟨G,0,none⟩=some (.slice ra rl rc):=by have:=H1.out.blk.cell (j:=0) rfl;rw[this,HPI.out.1,Hra.out,Hrc.out,Hrl.out];rfl
    have b1:wd.cell? ⟨G,1,none⟩=some (.slice ca cl cc):=by have:=H1.out.blk.cell (j:=1) rfl;rw[this,HPI.out.2.1,Hca.out,Hcc.out,Hcl.out];rfl
    by_cases hn:fn=0
    ·have hnil:L=[]:=List.eq_nil_of_length_eq_zero (by rw[Hnum.out.2.2.2.1];exact hn)
     subst hnil;subst hn
     have CX:Hid (Calls Tryz.prog 14 #[.agg #[.slice ra rl rc,.slice ca cl cc]] wd fun e w'=>∃f:Int × Int,Told x.prg f/\e=.returned (.agg #[V f.1,V f.2])/\More wd w'):=by
      rw[<-Hra.out,<-Hrc.out,<-Hrl.out,<-Hca.out,<-Hcc.out,<-Hcl.out];exact J6t x.prg lp wd HPI2.out.1 Hw.out.fit
     go_wp2_with (fail)
     refine CX.out.mono ?_;rintro e w3 ⟨⟨f1,f2⟩,ht,rfl,m3⟩;have hb:=ht.b64 Hw.out.cl;have HE:Hid (∀w',More wd w'->P (.returned (.string (txt (fauL (f1,f2) okW)))) w'):=fun w' m=>HQ.out x _ w' (J68 (.inl ⟨rfl,rfl,(f1,f2),ht,rfl⟩)) (LAns.same H1.out m)
     have CF:Hid (∀w1,Calls Tryz.prog 15 #[.agg #[V f1,V f2]] w1 fun e w'=>e=.returned (.string (txt (ansL badW [f1,f2])))/\More w1 w'):=fun w1=>J5n f1 f2 w1 hb.1 hb.2
     have Hm3:=J02 m3;clear CX ht hb m3 HQ;by_cases h0:f1=0
     ·subst h0
      have HF:=J02 (HE.out (w3.alloc (.cells #[V 0,V f2] 52)) (Hm3.out.alloc _ _));have HF:Hid (P (.returned (.string ⟨#[111,107]⟩)) (w3.alloc (.cells #[V 0,V f2] 52))):=HF;clear HE CF;go_wp2;exact HF.out
     ·have HE2:Hid (∀w',More wd w'->P (.returned (.string (txt (ansL badW [f1,f2])))) w'):=fun w' m=>by
       have:=HE.out w' m;rw[fauL,if_neg h0]at this;exact this
      have e0:(f1==0)=false:=by simp[h0]
      have e1:(f1 != 0)=true:=by simp[h0]
      obtain⟨R,HR⟩:∃R,Hid (txt (ansL badW [f1,f2])=R):=⟨_,rfl⟩;rw[HR.out]at CF HE2;clear HE;go_wp2_with (fail)
      refine(CF.out _).mono ?_;rintro e w4 ⟨rfl,m4⟩;have HF:=J02 (HE2.out w4 ((Hm3.out.alloc _ _).trans m4));clear m4 HE2 CF;go_wp2;exact HF.out
    ·have HE:Hid (P (.returned (.string ⟨#[63]⟩)) wd):=HQ.out x [63] wd (J68 (.inr ⟨fun e=>hn (by rw[<-Hnum.out.2.2.2.1,e];rfl),rfl,rfl⟩)) (LAns.same H1.out (More.refl _))
     have hi:((fn:Int)==0)=false:=by simp;omega
     have hi2:(fn==0)=false:=by simp;omega
     clear hn;clear HQ;go_wp2;exact HE.out
   ·have c0:wd.cell? ⟨sg,0,none⟩=some (.string ⟨#[104,97,114,100]⟩):=c0
    obtain⟨ra,Hra⟩:∃z,Hid (lp.ra=z):=⟨_,rfl⟩;obtain⟨rc,Hrc⟩:∃z,Hid (lp.rc=z):=⟨_,rfl⟩;obtain⟨rl,Hrl⟩:∃z,Hid (x.rs.length=z):=⟨_,rfl⟩;obtain⟨ca,Hca⟩:∃z,Hid (lp.ca=z):=⟨_,rfl⟩;obtain⟨cc,Hcc⟩:∃z,Hid (lp.cc=z):=⟨_,rfl⟩;obtain⟨cl,Hcl⟩:∃z,Hid (x.cs.length=z):=⟨_,rfl⟩;have b0:wd.cell? ⟨G,0,none⟩=some (.slice ra rl rc):=by have:=H1.out.blk.cell (j:=0) rfl;rw[this,HPI.out.1,Hra.out,Hrc.out,Hrl.out];rfl
    have b1:wd.cell? ⟨G,1,none⟩=some (.slice ca cl cc):=by have:=H1.out.blk.cell (j:=1) rfl;rw[this,HPI.out.2.1,Hca.out,Hcc.out,Hcl.out];rfl
    by_cases hn:fn=0
    ·have hnil:L=[]:=List.eq_nil_of_length_eq_zero (by rw[Hnum.out.2.2.2.1];exact hn)
     subst hnil;subst hn
     have CX:Hid (Calls Tryz.prog 16 #[.agg #[.slice ra rl rc,.slice ca cl cc]] wd (MadeO x.prg wd)):=by
      rw[<-Hra.out,<-Hrc.out,<-Hrl.out,<-Hca.out,<-Hcc.out,<-Hcl.out];exact Jba x.prg lp wd HPI2.out.1 Hw.out.fit
     have HB1:Hid (Blk wd G #[.slice ra rl rc,.slice ca cl cc,.slice ma mn mc] 31):=by
      have:=H1.out.blk;rw[HPI.out.1,HPI.out.2.1,HPI.out.2.2.1,Hra.out,Hrc.out,Hrl.out,Hca.out,Hcc.out,Hcl.out,Hma.out,Hmc.out,Hmn.out]at this;exact this
     go_wp2_with (fail)
     refine CX.out.mono ?_;rintro e w3 ⟨ff,ht,m3,⟨h0,lh,hpin,rfl,r1,r2⟩ | ⟨h0,rfl⟩⟩
     ·have Hown:Hid (w3.ownsRow B 76 2 (.slice lh.ra x.rs.length lh.rc) x.rs.length (celR x.rs)/\w3.ownsRow B 41 5 (.slice lh.ca (J0c x.prg x.prg.cl) lh.cc) (hardC x.prg).length (celI (hardC x.prg))):=Jg0 hpin (r1.low (by have:=H1.out.lo;omega)) (r2.low (by have:=H1.out.lo;omega))
      have hv:prgV (hardP x.prg) lh=.agg #[.slice lh.ra x.rs.length lh.rc,.slice lh.ca (J0c x.prg x.prg.cl) lh.cc]:=rfl;rw[hv];have Hf:Hid (Told x.prg ff/\ff.1=0):=⟨ht,h0⟩;have Hm3:=J02 m3;clear CX ht h0 hpin r1 r2 m3 hv;obtain⟨n,Hn⟩:∃z,Hid (J0c x.prg x.prg.cl=z):=⟨_,rfl⟩;obtain⟨a1,Ha1⟩:∃z,Hid (lh.ra=z):=⟨_,rfl⟩;obtain⟨a2,Ha2⟩:∃z,Hid (lh.rc=z):=⟨_,rfl⟩;obtain⟨a3,Ha3⟩:∃z,Hid (lh.ca=z):=⟨_,rfl⟩;obtain⟨a4,Ha4⟩:∃z,Hid (lh.cc=z):=⟨_,rfl⟩;rw[Ha1.out,Ha2.out,Ha3.out,Ha4.out,Hn.out]at Hown |-;rw[Hrl.out];rw[Hrl.out]at Hown;have Q1:Hid (Lp B G x rv cv mv w3):=H1.out.more Hm3.out;have QB:Hid (Blk w3 G #[.slice ra rl rc,.slice ca cl cc,.slice ma mn mc] 31):=HB1.out.more Hm3.out;have z2:w3.cell? ⟨G,0,none⟩=some (.slice ra rl rc):=QB.out.cell rfl;have z3:w3.cell? ⟨G,1,none⟩=some (.slice ca cl cc):=QB.out.cell rfl;have z0:=Q1.out.blk.frozen 0;have z1:=Q1.out.blk.frozen 1;have hG1:=Q1.out.blk.lt;clear b0 b1 hGd bm c0;obtain⟨W0,HW0⟩:∃w_:World,Hid (w_=(w3.setCell ⟨G,0,none⟩ (.slice a1 rl a2)).setCell ⟨G,1,none⟩ (.slice a3 n a4)):=⟨_,rfl⟩
      have HD:Hid (LAns B G wd ⟨x.rs,hardC x.prg,x.ms⟩ W0/\W0.heap.size=w3.heap.size):=by
       have hp:=Q1.out.newP (rs':=x.rs) (cs':=hardC x.prg) (rv':=.slice a1 rl a2) (cv':=.slice a3 n a4) (by rw[Hrl.out];exact Hown.out.1) Hown.out.2;rw[HW0.out];refine⟨⟨⟨_,_,_,hp⟩,?_⟩,by simp[World.setCell]⟩;exact((Below.mono Hm3.out (Nat.le_of_lt H1.out.blk.lt)).setCell (p:=⟨G,0,none⟩) (Nat.le_refl _) _).setCell (p:=⟨G,1,none⟩) (Nat.le_refl _) _
      have hn6:n<=600:=by
       have h1:=J2o x.prg x.prg.cl;have h2:=((Hf.out.1.ok Hf.out.2).1).2.2.1;rw[<-Hn.out];omega
      have CD:Hid (∀(w1:World) (b:Nat) (T:TypeId),Blk w1 b #[V (n:Int)] T->Calls Tryz.prog 10 #[.string ⟨#[111,107]⟩,.slice (some ⟨b,0,none⟩) 1 1] w1 fun e w'=>e=.returned (.string (txt (ansL okW [(n:Int)])))/\More w1 w'):=fun w1 b T h=>J8w okW _ w1 b T (by decide) (by unfold B64;omega) h
      have HE:Hid (∀w',More W0 w'->P (.returned (.string (txt (ansL okW [(n:Int)])))) w'):=fun w' mm=>HQ.out _ _ w' (J6w (.inl ⟨rfl,ff,Hf.out.1,by rw[if_pos Hf.out.2],by rw[fauL,if_pos Hf.out.2,Hn.out]⟩)) (HD.out.1.more mm)
      obtain⟨R,HR⟩:∃R,Hid (txt (ansL okW [(n:Int)])=R):=⟨_,rfl⟩;rw[HR.out]at CD HE;clear HQ HR hn6;go_wp2_with (fail)
      rw[<-HW0.out];have hb:=Blk.last ((W0.alloc (.cells #[.slice a1 rl a2,.slice a3 n a4] 28)).alloc (.cells #[V 0,V 0] 52)) #[V n] 2;have hz:((W0.alloc (.cells #[.slice a1 rl a2,.slice a3 n a4] 28)).alloc (.cells #[V 0,V 0] 52)).heap.size=w3.heap.size+1+1:=by simp[HD.out.2]
      rw[hz]at hb;refine(CD.out _ _ _ hb).mono ?_;rintro e w11 ⟨rfl,m11⟩;have Hend:Hid (P (.returned (.string R)) w11):=HE.out w11 (((((More.refl _).alloc _ _).alloc _ _).alloc _ _).trans m11);clear m11 HE hb hz CD;go_wp2;exact Hend.out
     ·obtain⟨f1,f2⟩:=ff
      have hb:=ht.b64 Hw.out.cl;have HE:Hid (∀w',More wd w'->P (.returned (.string (txt (ansL badW [f1,f2])))) w'):=fun w' mm=>HQ.out x _ w' (J6w (.inl ⟨rfl,(f1,f2),ht,by rw[if_neg h0],by rw[fauL,if_neg h0]⟩)) (LAns.same H1.out mm)
      have CF:Hid (∀w2,Calls Tryz.prog 15 #[.agg #[V f1,V f2]] w2 fun e w'=>e=.returned (.string (txt (ansL badW [f1,f2])))/\More w2 w'):=fun w2=>J5n f1 f2 w2 hb.1 hb.2
      obtain⟨R,HR⟩:∃R,Hid (txt (ansL badW [f1,f2])=R):=⟨_,rfl⟩;rw[HR.out]at CF HE;dsimp only at h0;have e0:(f1==0)=false:=by simp[h0]
      have e1:(f1 != 0)=true:=by simp[h0]
      have Hm3:=J02 m3;clear HQ CX ht m3 hb HR b0 b1 hGd bm c0;go_wp2_with (fail)
      refine(CF.out _).mono ?_;rintro e w2 ⟨rfl,m2⟩;have Hend:Hid (P (.returned (.string R)) w2):=HE.out w2 (((Hm3.out.alloc _ _).alloc _ _).trans m2);clear m2 HE CF;go_wp2;exact Hend.out
    ·have HE:Hid (P (.returned (.string ⟨#[63]⟩)) wd):=HQ.out x [63] wd (J6w (.inr ⟨fun e=>hn (by rw[<-Hnum.out.2.2.2.1,e];rfl),rfl,rfl⟩)) (LAns.same H1.out (More.refl _))
     have hi:((fn:Int)==0)=false:=by simp;omega
     have hi2:(fn==0)=false:=by simp;omega
     clear hn;clear HQ;go_wp2;exact HE.out
   ·have c0:wd.cell? ⟨sg,0,none⟩=some (.string ⟨#[116,101,120,116]⟩):=c0
    obtain⟨ra,Hra⟩:∃z,Hid (lp.ra=z):=⟨_,rfl⟩;obtain⟨rc,Hrc⟩:∃z,Hid (lp.rc=z):=⟨_,rfl⟩;obtain⟨rl,Hrl⟩:∃z,Hid (x.rs.length=z):=⟨_,rfl⟩;obtain⟨ca,Hca⟩:∃z,Hid (lp.ca=z):=⟨_,rfl⟩;obtain⟨cc,Hcc⟩:∃z,Hid (lp.cc=z):=⟨_,rfl⟩;obtain⟨cl,Hcl⟩:∃z,Hid (x.cs.length=z):=⟨_,rfl⟩;have b0:wd.cell? ⟨G,0,none⟩=some (.slice ra rl rc):=by have:=H1.out.blk.cell (j:=0) rfl;rw[this,HPI.out.1,Hra.out,Hrc.out,Hrl.out];rfl
    have b1:wd.cell? ⟨G,1,none⟩=some (.slice ca cl cc):=by have:=H1.out.blk.cell (j:=1) rfl;rw[this,HPI.out.2.1,Hca.out,Hcc.out,Hcl.out];rfl
    by_cases hn:fn=0
    ·have hnil:L=[]:=List.eq_nil_of_length_eq_zero (by rw[Hnum.out.2.2.2.1];exact hn)
     subst hnil;subst hn
     have CX:Hid (Calls Tryz.prog 17 #[.agg #[.slice ra rl rc,.slice ca cl cc]] wd fun e w'=>∃(s:ByteArray) (c:Int),e=.returned (.tuple #[.string s,V c])/\((x.prg.Ok 8000 10/\s=txt (textL x.prg)/\c=0)\/(¬x.prg.Ok 8000 10/\s=txt []/\c=2))/\More wd w'):=by
      rw[<-Hra.out,<-Hrc.out,<-Hrl.out,<-Hca.out,<-Hcc.out,<-Hcl.out];refine(J8r x.prg lp wd HL1.out.toLai HPI2.out.1 Hw.out.fit).mono ?_;rintro e w' ⟨m,⟨ok,rfl⟩ | ⟨ok,rfl⟩⟩
      ·exact⟨_,_,rfl,.inl ⟨ok,rfl,rfl⟩,m⟩
      ·exact⟨_,_,rfl,.inr ⟨ok,rfl,rfl⟩,m⟩
     go_wp2_with (fail)
     refine CX.out.mono ?_;rintro e w3 ⟨s3,c3,rfl,ht,m3⟩;have Hm3:=J02 m3;rcases ht with⟨ok,hs3,rfl⟩ | ⟨ok,hs3,rfl⟩
     ·have hn3:s3.size=(textL x.prg).length:=by rw[hs3,J0e]
      obtain⟨n3,Hn3⟩:∃z,Hid ((textL x.prg).length=z):=⟨_,rfl⟩;rw[Hn3.out]at hn3
      have hb3:n3 < 4611686018427387904:=by
       have h1:=J2u x.prg x.prg.rl;have h2:=J3f x.prg x.prg.cl;have h3:=ok.1.1;have h4:=ok.2.2.1;rw[<-Hn3.out,textL,List.length_append];omega
      have CD:Hid (∀(w1:World) (b:Nat) (T:TypeId),Blk w1 b #[V (n3:Int)] T->Calls Tryz.prog 10 #[.string ⟨#[111,107]⟩,.slice (some ⟨b,0,none⟩) 1 1] w1 fun e w'=>e=.returned (.string (txt (ansL okW [(n3:Int)])))/\More w1 w'):=fun w1 b T h=>J8w okW _ w1 b T (by decide) (by unfold B64;omega) h
      have HE:Hid (∀w',More wd w'->P (.returned (.string (txt (ansL okW [(n3:Int)])))) w'):=fun w' m=>HQ.out x _ w' (J79 (.inl ⟨rfl,rfl,.inl ⟨ok,by rw[Hn3.out]⟩⟩)) (LAns.same H1.out m)
      obtain⟨R,HR⟩:∃R,Hid (txt (ansL okW [(n3:Int)])=R):=⟨_,rfl⟩;rw[HR.out]at CD HE;clear CX m3 ok hs3 HQ hb3;go_wp2_with (fail)
      have hb:=Blk.last w3 #[V (n3:Int)] 2;refine(CD.out _ _ _ hb).mono ?_;rintro e w4 ⟨rfl,m4⟩;have HF:=J02 (HE.out w4 ((Hm3.out.alloc _ _).trans m4));clear m4 HE CD hb;go_wp2;exact HF.out
     ·have HE:Hid (∀w',More wd w'->P (.returned (.string (txt (ansL badW [2])))) w'):=fun w' m=>HQ.out x _ w' (J79 (.inl ⟨rfl,rfl,.inr ⟨ok,rfl⟩⟩)) (LAns.same H1.out m)
      have CD:Hid (∀(w1:World) (b:Nat) (T:TypeId),Blk w1 b #[V 2] T->Calls Tryz.prog 10 #[.string ⟨#[98,97,100]⟩,.slice (some ⟨b,0,none⟩) 1 1] w1 fun e w'=>e=.returned (.string (txt (ansL badW [2])))/\More w1 w'):=fun w1 b T h=>J8w badW _ w1 b T (by decide) (by unfold B64;decide) h
      obtain⟨R,HR⟩:∃R,Hid (txt (ansL badW [2])=R):=⟨_,rfl⟩;rw[HR.out]at CD HE;clear CX m3 ok hs3 HQ;go_wp2_with (fail)
      have hb:=Blk.last w3 #[V 2] 2;refine(CD.out _ _ _ hb).mono ?_;rintro e w4 ⟨rfl,m4⟩;have HF:=J02 (HE.out w4 ((Hm3.out.alloc _ _).trans m4));clear m4 HE CD hb;go_wp2;exact HF.out
    ·have HE:Hid (P (.returned (.string ⟨#[63]⟩)) wd):=HQ.out x [63] wd (J79 (.inr ⟨fun e=>hn (by rw[<-Hnum.out.2.2.2.1,e];rfl),rfl,rfl⟩)) (LAns.same H1.out (More.refl _))
     have hi:((fn:Int)==0)=false:=by simp;omega
     have hi2:(fn==0)=false:=by simp;omega
     clear hn;clear HQ;go_wp2;exact HE.out
   ·have c0:wd.cell? ⟨sg,0,none⟩=some (.string ⟨#[108,111,97,100]⟩):=c0
    obtain⟨ra,Hra⟩:∃z,Hid (lp.ra=z):=⟨_,rfl⟩;obtain⟨rc,Hrc⟩:∃z,Hid (lp.rc=z):=⟨_,rfl⟩;obtain⟨rl,Hrl⟩:∃z,Hid (x.rs.length=z):=⟨_,rfl⟩;obtain⟨ca,Hca⟩:∃z,Hid (lp.ca=z):=⟨_,rfl⟩;obtain⟨cc,Hcc⟩:∃z,Hid (lp.cc=z):=⟨_,rfl⟩;obtain⟨cl,Hcl⟩:∃z,Hid (x.cs.length=z):=⟨_,rfl⟩;have b0:wd.cell? ⟨G,0,none⟩=some (.slice ra rl rc):=by have:=H1.out.blk.cell (j:=0) rfl;rw[this,HPI.out.1,Hra.out,Hrc.out,Hrl.out];rfl
    have b1:wd.cell? ⟨G,1,none⟩=some (.slice ca cl cc):=by have:=H1.out.blk.cell (j:=1) rfl;rw[this,HPI.out.2.1,Hca.out,Hcc.out,Hcl.out];rfl
    by_cases hn:fn=0
    ·have hnil:L=[]:=List.eq_nil_of_length_eq_zero (by rw[Hnum.out.2.2.2.1];exact hn)
     subst hnil;subst hn
     have CX:Hid (Calls Tryz.prog 18 #[.agg #[.slice ra rl rc,.slice ca cl cc]] wd fun e w'=>∃(f:Int × Int) (a:Option Addr) (k c:Nat),Told x.prg f/\e=.returned (.tuple #[.slice a k c,.agg #[V f.1,V f.2]])/\(f.1=0->k=(fitP (hardP x.prg)).cl)/\k < 4611686018427387904/\More wd w'):=by
      rw[<-Hra.out,<-Hrc.out,<-Hrl.out,<-Hca.out,<-Hcc.out,<-Hcl.out];refine(J9z x.prg lp wd HPI2.out.1 Hw.out.fit).mono ?_;rintro e w' ⟨f,ht,m,⟨h0,g,c,rfl,_⟩ | ⟨h0,rfl⟩⟩
      ·have ok:=(ht.ok h0).1
       have hf:=Jdf ht h0;exact⟨f,_,_,_,ht,by rw[hf],fun _=>rfl,by have:=(Jii ok Hw.out.fit).2.2.1;omega,m⟩
      ·exact⟨f,none,0,0,ht,rfl,fun q=>absurd q h0,by decide,m⟩
     go_wp2_with (fail)
     refine CX.out.mono ?_;rintro e w3 ⟨⟨f1,f2⟩,a3,k3,c3,ht,rfl,hk,hk3,m3⟩;have hb:=ht.b64 Hw.out.cl;have Hm3:=J02 m3;have HT:Hid (Told x.prg (f1,f2)/\(f1=0->k3=(fitP (hardP x.prg)).cl)):=⟨ht,hk⟩;clear CX ht m3 hk;by_cases h0:f1=0
     ·subst h0
      have CD:Hid (∀(w1:World) (b:Nat) (T:TypeId),Blk w1 b #[V (k3:Int)] T->Calls Tryz.prog 10 #[.string ⟨#[111,107]⟩,.slice (some ⟨b,0,none⟩) 1 1] w1 fun e w'=>e=.returned (.string (txt (ansL okW [(k3:Int)])))/\More w1 w'):=fun w1 b T h=>J8w okW _ w1 b T (by decide) (by unfold B64;omega) h
      have HE:Hid (∀w',More wd w'->P (.returned (.string (txt (ansL okW [(k3:Int)])))) w'):=fun w' m=>HQ.out x _ w' (J6y (.inl ⟨rfl,rfl,(0,f2),HT.out.1,by rw[fauL,if_pos rfl,HT.out.2 rfl]⟩)) (LAns.same H1.out m)
      obtain⟨R,HR⟩:∃R,Hid (txt (ansL okW [(k3:Int)])=R):=⟨_,rfl⟩;rw[HR.out]at CD HE;clear HQ hb hk3;go_wp2_with (fail)
      have hb:=Blk.last (w3.alloc (.cells #[V 0,V f2] 52)) #[V (k3:Int)] 2;refine(CD.out _ _ _ (by simpa using hb)).mono ?_;rintro e w4 ⟨rfl,m4⟩;have HF:=J02 (HE.out w4 (((Hm3.out.alloc _ _).alloc _ _).trans m4));clear m4 HE CD hb;go_wp2;exact HF.out
     ·have HE:Hid (∀w',More wd w'->P (.returned (.string (txt (ansL badW [f1,f2])))) w'):=fun w' m=>HQ.out x _ w' (J6y (.inl ⟨rfl,rfl,(f1,f2),HT.out.1,by rw[fauL,if_neg h0]⟩)) (LAns.same H1.out m)
      have CF:Hid (∀w1,Calls Tryz.prog 15 #[.agg #[V f1,V f2]] w1 fun e w'=>e=.returned (.string (txt (ansL badW [f1,f2])))/\More w1 w'):=fun w1=>J5n f1 f2 w1 hb.1 hb.2
      have e0:(f1==0)=false:=by simp[h0]
      have e1:(f1 != 0)=true:=by simp[h0]
      obtain⟨R,HR⟩:∃R,Hid (txt (ansL badW [f1,f2])=R):=⟨_,rfl⟩;rw[HR.out]at CF HE;clear HQ hb hk3;go_wp2_with (fail)
      refine(CF.out _).mono ?_;rintro e w4 ⟨rfl,m4⟩;have HF:=J02 (HE.out w4 ((Hm3.out.alloc _ _).trans m4));clear m4 HE CF;go_wp2;exact HF.out
    ·have HE:Hid (P (.returned (.string ⟨#[63]⟩)) wd):=HQ.out x [63] wd (J6y (.inr ⟨fun e=>hn (by rw[<-Hnum.out.2.2.2.1,e];rfl),rfl,rfl⟩)) (LAns.same H1.out (More.refl _))
     have hi:((fn:Int)==0)=false:=by simp;omega
     have hi2:(fn==0)=false:=by simp;omega
     clear hn;clear HQ;go_wp2;exact HE.out
  ·obtain⟨n1,n2,n3,n4,n5,n6,n7,n8,n9,n10⟩:=Jbb hiw
   obtain⟨ht,Hht⟩:∃z,Hid (txt h=z):=⟨_,rfl⟩;rw[Hht.out]at c0;obtain⟨u0,t0⟩:=J1l Hht.out [114,101,103,105,111,110] n1;obtain⟨u1,t1⟩:=J1l Hht.out [102,105,108,108] n2;obtain⟨u2,t2⟩:=J1l Hht.out [108,111,111,107] n3;obtain⟨u3,t3⟩:=J1l Hht.out [105,110,115] n4;obtain⟨u4,t4⟩:=J1l Hht.out [114,117,110] n5;obtain⟨u5,t5⟩:=J1l Hht.out [97,104,101,97,100] n6;obtain⟨u6,t6⟩:=J1l Hht.out [99,104,101,99,107] n7;obtain⟨u7,t7⟩:=J1l Hht.out [104,97,114,100] n8;obtain⟨u8,t8⟩:=J1l Hht.out [116,101,120,116] n9;obtain⟨u9,t9⟩:=J1l Hht.out [108,111,97,100] n10;have HE:Hid (P (.returned (.string ⟨#[63]⟩)) wd):=HQ.out x [63] wd (J80 hiw ⟨rfl,rfl⟩) (LAns.same H1.out (More.refl _));clear HQ hiw n1 n2 n3 n4 n5 n6 n7 n8 n9 n10;go_wp2;exact HE.out
theorem lply0(w:World):Lp (w.heap.size+1) w.heap.size sta0 (.slice none 0 0) (.slice none 0 0) (.slice none 0 0) (w.alloc (.cells #[.slice none 0 0,.slice none 0 0,.slice none 0 0] 31)):=
 ⟨Blk.last _ _ _,rfl,by unfold TyOk;decide,World.ownsRow_nil _ _ _ _,World.ownsRow_nil _ _ _ _,[],rfl,List.nodup_nil,World.ownsRow_nil _ _ _ _,fun i g l h _=>by simp at h⟩
theorem Jjl(s:List UInt8):∃q last,J09 10 s=q++[last]/\(last=[]->J0v s=q)/\(¬last=[]->J0v s=q++[last]):=by
 refine⟨(J09 10 s).dropLast,(J09 10 s).getLast (J2j 10 s),(List.dropLast_concat_getLast (J2j 10 s)).symm,fun h=>?_,fun h=>?_⟩
 ·unfold J0v
  have e:=List.dropLast_concat_getLast (J2j 10 s);rw[h]at e;rw[<-e]
  simp
 ·have e:=List.dropLast_concat_getLast (J2j 10 s)
  unfold J0v;rw[if_neg]
  ·exact e.symm
  ·rw[<-e]
   simpa using h

theorem J7u(s:List UInt8)(w:World)(HL0:LaiD w)(h8:8<=w.heap.size)(hl:s.length<=1048576):
  Calls Tryz.prog 3 #[.string (txt s)] w fun e w'=>e=.returned (.bool true)/\More w w':=by
 suffices hP:∀P:Ending->World->Prop,(∀w',More w w'->P (.returned (.bool true)) w')->Calls Tryz.prog 3 #[.string (txt s)] w P from hP _ (fun w' m=>⟨rfl,m⟩)
 intro P hP0;have HP:Hid (∀w',More w w'->P (.returned (.bool true)) w'):=hP0;have HL:Hid (LaiD w):=HL0;obtain⟨q,last,hsp,hlast0,hlast1⟩:=Jjl s;have hqn:=(J2i 10 s).2;obtain⟨n,Hn⟩:∃z,Hid (q.length=z):=⟨_,rfl⟩;have hn:n<=1048577:=by rw[hsp]at hqn;simp at hqn;rw[<-Hn.out];omega
 have hshort:∀y,y ∈ q++[last]->y.length<=1048576:=fun y hy=>Nat.le_trans (J5z 10 s y (by rw[hsp];exact hy)) hl
 have Hq:Hid ((last=[]->J0v s=q)/\(¬last=[]->J0v s=q++[last])/\∀y,y ∈ q++[last]->y.length<=1048576):=⟨hlast0,hlast1,hshort⟩
 have CS:Hid (Calls Tryz.prog 5 #[.string (txt s),.int .u8 10] w fun e w'=>∃g cap,e=.returned (.slice (some ⟨g,0,none⟩) (n+1) cap)/\w.heap.size<=g/\(∀i y,(q++[last])[i]?=some y->w'.cell? ⟨g,i,none⟩=some (.string (txt y)))/\(More w w'/\n+1<=cap)):=by
  have:=J7e s 10 w (by omega);rw[hsp,List.length_append,Hn.out]at this;exact this
 have CP:Hid (∀w1,More w w1->Calls Tryz.prog 7 #[.string (txt s)] w1 fun e w'=>∃(r:List UInt8),e=.returned (.string (txt r))/\ScriptTo s r/\More w1 w'):=fun w1 m=>Ja4 s w1 (HL0.more m) (Nat.le_trans h8 m.size) (by omega)
 have CL:Hid (∀(B G:Nat) (x:Sta) (r:List UInt8) w1,(∃rv cv mv,Lp B G x rv cv mv w1)->Wf x->LaiG G w1->r.length<=1048576->Calls Tryz.prog 6 #[.pointer (some ⟨G,0,none⟩),.string (txt r)] w1 fun e w'=>∃y a,e=.returned (.string (txt a))/\SLineTo x r y a/\LAns B G w1 y w'):=fun B G x r w1 hp hw hL hr=>by
  obtain⟨rv,cv,mv,hp⟩:=hp;exact Jcm r w1 hp hw hL hr
 obtain⟨ss,Hss⟩:∃z,Hid (txt s=z):=⟨_,rfl⟩;rw[Hss.out]at CS CP |-;clear hP0 HL0 hlast0 hlast1 hshort hqn hsp hl;go_enter Tryz.func3,Tryz.ntmps3;go_wp2_with (fail)
 refine CS.out.mono ?_;rintro e w1 ⟨g0,cap,rfl,hg0,hcells,m1,hcap⟩;have HC:=J02 hcells;have Hm1:=J02 m1;have clast:w1.cell? ⟨g0,n,none⟩=some (.string (txt last)):=hcells n last (by rw[List.getElem?_append_right (by rw[Hn.out];exact Nat.le_refl _),Hn.out];simp);have hg1:g0 < w1.heap.size:=J0q clast;obtain⟨lt,Hlt⟩:∃z,Hid (txt last=z):=⟨_,rfl⟩;rw[Hlt.out]at clast;have hwn:wrap64 (n:Int)=n:=by unfold wrap64;omega
 have hn0:(0:Int)<=n:=by omega
 have hn1:(n:Int) < (n:Int)+1:=by omega
 have hnN:((n:Int)).toNat=n:=by omega
 have hncap:(n:Int)<=(cap:Int):=by omega
 clear CS hcells m1 hg0;by_cases hl0:last=[]
 ·have e0:lt.toList=[]:=by rw[<-Hlt.out,ByteArray.toList_mk];exact hl0
  have F:Hid (∃ls,ls.length=n/\J0v s=ls/\(∀i y,ls[i]?=some y->w1.cell? ⟨g0,i,none⟩=some (.string (txt y))/\y.length<=1048576)):=by
   refine⟨q,Hn.out,Hq.out.1 hl0,fun i y hy=>⟨HC.out i y ?_,Hq.out.2.2 y (List.mem_append_left _ (List.mem_of_getElem? hy))⟩⟩;rw[List.getElem?_append_left (List.getElem?_eq_some_iff.1 hy).1];exact hy
  clear hl0;go_wp2_with (fail)
  obtain⟨m,Hm⟩:∃z,Hid (n=z):=⟨_,rfl⟩;rw[Hm.out]at F |-;have hm2:m<=1048578:=by have:=Hm.out;omega
  have F2:Hid (∃ls,ls.length=m/\J0v s=ls/\(∀i y,ls[i]?=some y->w1.cell? ⟨g0,i,none⟩=some (.string (txt y))/\y.length<=1048576)):=F.out;clear F Hm HC Hq Hn clast hwn hn0 hn1 hnN hncap hcap e0 hn;obtain⟨ls,f1,f2,f3⟩:=F2.out;have HF:Hid (ls.length=m/\J0v s=ls/\(∀i y,ls[i]?=some y->w1.cell? ⟨g0,i,none⟩=some (.string (txt y))/\y.length<=1048576)):=⟨f1,f2,f3⟩;clear f1 f2 f3 F2;obtain⟨W,HW⟩:∃w_:World,Hid (w_=w1.alloc (.cells #[.slice none 0 0,.slice none 0 0,.slice none 0 0] 31)):=⟨_,rfl⟩;obtain⟨G,HG⟩:∃z,Hid (w1.heap.size=z):=⟨_,rfl⟩
  have H0:Hid ((∃rv cv mv,Lp (G+1) G sta0 rv cv mv W)/\LaiG G W/\Below G w1 W):=by
   have hm:Below G w1 W:=by
    have:More w1 W:=HW.out▸(More.refl _).alloc _ _;have h2:Below w1.heap.size w1 W:=this;rw[HG.out]at h2;exact h2
   have hp:=lply0 w1;rw[<-HW.out,HG.out]at hp;exact⟨⟨_,_,_,hp⟩,LaiG.low ⟨HL.out.more Hm1.out,by rw[<-HG.out];exact Nat.le_trans h8 Hm1.out.size⟩ hm,hm⟩
  rw[HG.out]at hg1;rw[<-HW.out];rw[HG.out];clear HW;go_loopg [5,6] 40 (fun g dv kv wr=>∃(k:Nat) (d:ByteArray),k+g=40/\k<=m/\dv=.string d/\kv=V k/\d.size<=2001*k/\Hid (∃(x:Sta) (a:List UInt8),d=txt a/\PlayTo sta0 (ls.take k) x a/\Wf x/\(∃rv cv mv,Lp (G+1) G x rv cv mv wr)/\LaiG G wr/\Below G w1 wr))
  case atStart=>exact⟨0,⟨#[]⟩,by omega,by omega,rfl,rfl,by decide,sta0,[],rfl,⟨rfl,rfl⟩,wf0,H0.out⟩
  case round=>
   obtain⟨k,d,hkg,hkm,rfl,rfl,hdz,Hr⟩:=hrel;clear H0;by_cases hst:k < m/\k < 40
   ·obtain⟨h1,h2⟩:=hst
    obtain⟨g,rfl⟩:∃g,gk=g+1:=⟨gk - 1,by omega⟩;have i1:(k:Int) < (m:Int):=by omega
    have i2:(k:Int) < 40:=by omega
    have hk0:(0:Int)<=(k:Int):=by omega
    obtain⟨x,a,a1,a2,a3,a4,a5,a6⟩:=Hr.out;have HA:Hid (d=txt a/\PlayTo sta0 (ls.take k) x a/\Wf x/\(∃rv cv mv,Lp (G+1) G x rv cv mv wr)/\LaiG G wr/\Below G w1 wr):=⟨a1,a2,a3,a4,a5,a6⟩;obtain⟨y,Hy⟩:∃y,Hid (ls[k]?=some y):=⟨_,List.getElem?_eq_getElem (by rw[HF.out.1];exact h1)⟩;have cy:wr.cell? ⟨g0,k,none⟩=some (.string (txt y)):=by rw[Below.cell a6 (by exact hg1)];exact(HF.out.2.2 k y Hy.out).1
    have C1:=J02 (CL.out (G+1) G x y wr a4 a3 a5 (HF.out.2.2 k y Hy.out).2);obtain⟨yt,Hyt⟩:∃z,Hid (txt y=z):=⟨_,rfl⟩;rw[Hyt.out]at cy C1;clear Hr a1 a2 a3 a4 a5 a6 h1 h2;go_wp2_with (fail)
    refine C1.out.mono ?_;rintro e w3 ⟨z,b,rfl,hline,da⟩;have hb2:=hline.short HA.out.2.2.1;have HX:Hid (SLineTo x y z b/\LAns (G+1) G wr z w3/\Wf z):=⟨hline,da,hline.wf HA.out.2.2.1⟩;have hbz:(txt b).size<=2000:=by rw[J0e];exact hb2
    have HN:Hid (∃(x:Sta) (a:List UInt8),d++txt b++⟨#[10]⟩=txt a/\PlayTo sta0 (ls.take (k+1)) x a/\Wf x/\(∃rv cv mv,Lp (G+1) G x rv cv mv w3)/\LaiG G w3/\Below G w1 w3):=by
     refine⟨z,a++(b++[10]),?_,?_,HX.out.2.2,HX.out.2.1.ply,HA.out.2.2.2.2.1.low HX.out.2.1.low,HA.out.2.2.2.2.2.trans HX.out.2.1.low⟩
     ·rw[HA.out.1,ByteArray.append_assoc]
      show txt a++(txt b++txt [10])=_;rw[J1k b [10],J1k a (b++[10])]
     ·rw[List.take_add_one,Hy.out]
      exact HA.out.2.1.snoc HX.out.1
    obtain⟨bt,Hbt⟩:∃z,Hid (txt b=z):=⟨_,rfl⟩;rw[Hbt.out]at HN hbz |-;clear C1 hline da hb2 cy HX HA;have hk63:wrap64 ((k:Int)+1)=(k:Int)+1:=by unfold wrap64;omega
    go_wp2;go_roundg g
    case measure=>omega
    case rel=>exact⟨k+1,_,by omega,by omega,rfl,by first | rfl | simp[hk63],by rw[ByteArray.size_append,ByteArray.size_append];show _+_+1<=_;omega,HN.out⟩
   ·have hfin:Hid (∃a,d=txt a/\ScriptTo s a/\Below G w1 wr):=by
     obtain⟨x,a,a1,a2,a3,a4,a5,a6⟩:=Hr.out;refine⟨a,a1,⟨x,?_⟩,a6⟩
     have e:(J0v s).take 40=ls.take k:=by
      rw[HF.out.2.1];have hlm:=HF.out.1;by_cases q:k=40
      ·rw[q]
      ·rw[List.take_of_length_le (by omega),List.take_of_length_le (by omega)]
     rw[e];exact a2
    have Hmr:Hid (More w wr):=by
     obtain⟨a,_,_,a6⟩:=hfin.out;have h2:More w1 wr:=by show Below w1.heap.size w1 wr;rw[HG.out];exact a6
     exact Hm1.out.trans h2
    have C2:=J02 (CP.out wr Hmr.out);clear Hr;have hc:(decide ((k:Int) < (m:Int))=false/\¬(k:Int) < (m:Int))\/((k:Int) < (m:Int)/\k=40):=by simp;omega
    clear hst;rcases hc with⟨d1,d2⟩ | ⟨d1,rfl⟩
    all_goals
     go_wp2_with (fail)
     refine C2.out.mono ?_;rintro e w4 ⟨r,rfl,hs4,m4⟩;obtain⟨a,a1,a2,_⟩:=hfin.out;obtain rfl:=hs4.one a2;obtain rfl:=a1;have HE:=J02 (HP.out w4 (Hmr.out.trans m4));clear C2 hs4 m4 a2;go_wp2;exact HE.out
 ·have e0:¬lt.toList=[]:=by rw[<-Hlt.out,ByteArray.toList_mk];exact hl0
  have e1:(lt.toList==[])=false:=by simp only[beq_eq_false_iff_ne];exact e0
  have e2:lt.toList.isEmpty=false:=by
   cases q:lt.toList with
   | nil=>exact absurd q e0
   | cons=>rfl
  have F:Hid (∃ls,ls.length=n+1/\J0v s=ls/\(∀i y,ls[i]?=some y->w1.cell? ⟨g0,i,none⟩=some (.string (txt y))/\y.length<=1048576)):=by
   exact⟨q++[last],by rw[List.length_append,Hn.out];rfl,Hq.out.2.1 hl0,fun i y hy=>⟨HC.out i y hy,Hq.out.2.2 y (List.mem_of_getElem? hy)⟩⟩
  clear hl0;go_wp2_with (fail)
  obtain⟨m,Hm⟩:∃z,Hid (n+1=z):=⟨_,rfl⟩;rw[Hm.out]at F |-;have hm2:m<=1048578:=by have:=Hm.out;omega
  have F2:Hid (∃ls,ls.length=m/\J0v s=ls/\(∀i y,ls[i]?=some y->w1.cell? ⟨g0,i,none⟩=some (.string (txt y))/\y.length<=1048576)):=F.out;clear F Hm HC Hq Hn clast hwn hn0 hn1 hnN hncap hcap e0 hn;obtain⟨ls,f1,f2,f3⟩:=F2.out;have HF:Hid (ls.length=m/\J0v s=ls/\(∀i y,ls[i]?=some y->w1.cell? ⟨g0,i,none⟩=some (.string (txt y))/\y.length<=1048576)):=⟨f1,f2,f3⟩;clear f1 f2 f3 F2;obtain⟨W,HW⟩:∃w_:World,Hid (w_=w1.alloc (.cells #[.slice none 0 0,.slice none 0 0,.slice none 0 0] 31)):=⟨_,rfl⟩;obtain⟨G,HG⟩:∃z,Hid (w1.heap.size=z):=⟨_,rfl⟩
  have H0:Hid ((∃rv cv mv,Lp (G+1) G sta0 rv cv mv W)/\LaiG G W/\Below G w1 W):=by
   have hm:Below G w1 W:=by
    have:More w1 W:=HW.out▸(More.refl _).alloc _ _;have h2:Below w1.heap.size w1 W:=this;rw[HG.out]at h2;exact h2
   have hp:=lply0 w1;rw[<-HW.out,HG.out]at hp;exact⟨⟨_,_,_,hp⟩,LaiG.low ⟨HL.out.more Hm1.out,by rw[<-HG.out];exact Nat.le_trans h8 Hm1.out.size⟩ hm,hm⟩
  rw[HG.out]at hg1;rw[<-HW.out];rw[HG.out];clear HW;go_loopg [5,6] 40 (fun g dv kv wr=>∃(k:Nat) (d:ByteArray),k+g=40/\k<=m/\dv=.string d/\kv=V k/\d.size<=2001*k/\Hid (∃(x:Sta) (a:List UInt8),d=txt a/\PlayTo sta0 (ls.take k) x a/\Wf x/\(∃rv cv mv,Lp (G+1) G x rv cv mv wr)/\LaiG G wr/\Below G w1 wr))
  case atStart=>exact⟨0,⟨#[]⟩,by omega,by omega,rfl,rfl,by decide,sta0,[],rfl,⟨rfl,rfl⟩,wf0,H0.out⟩
  case round=>
   obtain⟨k,d,hkg,hkm,rfl,rfl,hdz,Hr⟩:=hrel;clear H0;by_cases hst:k < m/\k < 40
   ·obtain⟨h1,h2⟩:=hst
    obtain⟨g,rfl⟩:∃g,gk=g+1:=⟨gk - 1,by omega⟩;have i1:(k:Int) < (m:Int):=by omega
    have i2:(k:Int) < 40:=by omega
    have hk0:(0:Int)<=(k:Int):=by omega
    obtain⟨x,a,a1,a2,a3,a4,a5,a6⟩:=Hr.out;have HA:Hid (d=txt a/\PlayTo sta0 (ls.take k) x a/\Wf x/\(∃rv cv mv,Lp (G+1) G x rv cv mv wr)/\LaiG G wr/\Below G w1 wr):=⟨a1,a2,a3,a4,a5,a6⟩;obtain⟨y,Hy⟩:∃y,Hid (ls[k]?=some y):=⟨_,List.getElem?_eq_getElem (by rw[HF.out.1];exact h1)⟩;have cy:wr.cell? ⟨g0,k,none⟩=some (.string (txt y)):=by rw[Below.cell a6 (by exact hg1)];exact(HF.out.2.2 k y Hy.out).1
    have C1:=J02 (CL.out (G+1) G x y wr a4 a3 a5 (HF.out.2.2 k y Hy.out).2);obtain⟨yt,Hyt⟩:∃z,Hid (txt y=z):=⟨_,rfl⟩;rw[Hyt.out]at cy C1;clear Hr a1 a2 a3 a4 a5 a6 h1 h2;go_wp2_with (fail)
    refine C1.out.mono ?_;rintro e w3 ⟨z,b,rfl,hline,da⟩;have hb2:=hline.short HA.out.2.2.1;have HX:Hid (SLineTo x y z b/\LAns (G+1) G wr z w3/\Wf z):=⟨hline,da,hline.wf HA.out.2.2.1⟩;have hbz:(txt b).size<=2000:=by rw[J0e];exact hb2
    have HN:Hid (∃(x:Sta) (a:List UInt8),d++txt b++⟨#[10]⟩=txt a/\PlayTo sta0 (ls.take (k+1)) x a/\Wf x/\(∃rv cv mv,Lp (G+1) G x rv cv mv w3)/\LaiG G w3/\Below G w1 w3):=by
     refine⟨z,a++(b++[10]),?_,?_,HX.out.2.2,HX.out.2.1.ply,HA.out.2.2.2.2.1.low HX.out.2.1.low,HA.out.2.2.2.2.2.trans HX.out.2.1.low⟩
     ·rw[HA.out.1,ByteArray.append_assoc]
      show txt a++(txt b++txt [10])=_;rw[J1k b [10],J1k a (b++[10])]
     ·rw[List.take_add_one,Hy.out]
      exact HA.out.2.1.snoc HX.out.1
    obtain⟨bt,Hbt⟩:∃z,Hid (txt b=z):=⟨_,rfl⟩;rw[Hbt.out]at HN hbz |-;clear C1 hline da hb2 cy HX HA;have hk63:wrap64 ((k:Int)+1)=(k:Int)+1:=by unfold wrap64;omega
    go_wp2;go_roundg g
    case measure=>omega
    case rel=>exact⟨k+1,_,by omega,by omega,rfl,by first | rfl | simp[hk63],by rw[ByteArray.size_append,ByteArray.size_append];show _+_+1<=_;omega,HN.out⟩
   ·have hfin:Hid (∃a,d=txt a/\ScriptTo s a/\Below G w1 wr):=by
     obtain⟨x,a,a1,a2,a3,a4,a5,a6⟩:=Hr.out;refine⟨a,a1,⟨x,?_⟩,a6⟩
     have e:(J0v s).take 40=ls.take k:=by
      rw[HF.out.2.1];have hlm:=HF.out.1;by_cases q:k=40
      ·rw[q]
      ·rw[List.take_of_length_le (by omega),List.take_of_length_le (by omega)]
     rw[e];exact a2
    have Hmr:Hid (More w wr):=by
     obtain⟨a,_,_,a6⟩:=hfin.out;have h2:More w1 wr:=by show Below w1.heap.size w1 wr;rw[HG.out];exact a6
     exact Hm1.out.trans h2
    have C2:=J02 (CP.out wr Hmr.out);clear Hr;have hc:(decide ((k:Int) < (m:Int))=false/\¬(k:Int) < (m:Int))\/((k:Int) < (m:Int)/\k=40):=by simp;omega
    clear hst;rcases hc with⟨d1,d2⟩ | ⟨d1,rfl⟩
    all_goals
     go_wp2_with (fail)
     refine C2.out.mono ?_;rintro e w4 ⟨r,rfl,hs4,m4⟩;obtain⟨a,a1,a2,_⟩:=hfin.out;obtain rfl:=hs4.one a2;obtain rfl:=a1;have HE:=J02 (HP.out w4 (Hmr.out.trans m4));clear C2 hs4 m4 a2;go_wp2;exact HE.out
end
end Go.Proofs.YtephohhigbfafaaGreatDoor
