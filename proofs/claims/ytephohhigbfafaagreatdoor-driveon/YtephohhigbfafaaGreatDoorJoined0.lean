/-
  The texts Mem, TxPlain, TbBld, BlkM, Shown, Plain, Sem, TxDig, TxWord, TxLine, TxNum, TxCanon, TxSplit, TxOp, TxRead, TxBack, TxForm, PrgOf, TxPars, TbPlain, TbWrite, Ord, TcLai, TcTabs, DvDig, Open, Fuel, Script, SOpen, DvSaid, DvRan, TbKind, TbLine, one behind the other, with what is used of them.
-/
import Derived.WalkKit
import Derived.Deep.WholeRow
import Derived.Laws.Concat
import Derived.Test.YtephohhigbfafaaGreatDoorShelf
import Derived.BigCall
import Derived.Deep.AppendLies
import Derived.OwnWalk
import Derived.Laws.OwnMore
import Derived.Laws.IdiomCopy
import Derived.RowKit
import Derived.Laws.BitsAllLaws
import Derived.Test.YtephohhigbfafaaGreatDoorProg
import Derived.Deep.LoopGhost
import Derived.Laws.BytesString
import Derived.Deep.OwnRows
import Derived.Lib.ItoaNum
import Derived.Lib.ItoaLen
import Derived.Lib.Hide
import Derived.Deep.RegionHeld3
import Derived.Lib.Strings
import Derived.Lib.LaidTab
import Derived.Stop.LaidErr
import Derived.LaidLaws
import Derived.Test.YtephohhigbfafaaGreatDoorRows
import Derived.ProofKit
import Derived.OpenShut
import Derived.Deep.Slices
import Derived.Deep.SlicePairs
import Derived.Deep.Matrix
import Derived.Lib.SmallJoins
namespace Go.Proofs.YtephohhigbfafaaGreatDoor
set_option maxHeartbeats 4000000
abbrev V(n:Int):Value:=.int .i64 n
section
open Go.RowKit
def More(w w':World):Prop:=Below w.heap.size w w'

theorem More.refl(w:World):More w w:=Below.refl _ _
theorem More.size{w w':World}(h:More w w'):w.heap.size<=w'.heap.size:=Below.size h
theorem More.block{w w':World}(h:More w w')(i:Nat)(hi:i < w.heap.size):w'.heap[i]?=w.heap[i]?:=Below.block h i hi
theorem More.trans{a b c:World}(h:More a b)(k:More b c):More a c:=Below.trans h (Below.mono k h.size)
theorem More.alloc{w w':World}(h:More w w')(c:Array Value)(t:TypeId):More w (w'.alloc (.cells c t)):=Below.alloc h h.size _
theorem More.setCell{w w':World}(h:More w w'){a:Addr}(ha:w.heap.size<=a.block)(v:Value):More w (w'.setCell a v):=Below.setCell h ha v
theorem More.drew{w w':World}(h:More w w'):More w w'.drew:=Below.drew h
theorem More.grownBy{w w1 w2:World}{row:Option Nat}(h:More w w1)(hg:w1.grownBy w2 row)(hr:∀k,row=some k->w.heap.size<=k):More w w2:=Below.grown h hg h.size hr
theorem J0q{w:World}{a:Addr}{v:Value}(h:w.cell? a=some v):a.block < w.heap.size:=by
 rcases Nat.lt_or_ge a.block w.heap.size with h' | h'
 ·exact h'
 ·have e:w.heap[a.block]?=none:=by simp[h']
  unfold World.cell? at h;simp[e]at h
theorem More.cell{w w':World}(h:More w w'){a:Addr}{v:Value}(hc:w.cell? a=some v):w'.cell? a=some v:=by
 rw[Below.cell h (J0q hc)];exact hc

def Says(P:Prop)(w:World)(e:Ending)(w':World):Prop:=∃r:Bool,e=.returned (.bool r)/\(r=true↔P)/\More w w'

theorem Says.yes{P:Prop}{w w':World}(h:P)(m:More w w'):Says P w (.returned (.bool true)) w':=⟨true,rfl,by simp[h],m⟩
theorem Says.no{P:Prop}{w w':World}(h:¬P)(m:More w w'):Says P w (.returned (.bool false)) w':=⟨false,rfl,by simp[h],m⟩

structure Ins where
 op:Int
 a:Int
 b:Int
 c:Int
 n:Int

structure Prg where
 rl:Nat
 log:Nat->Int
 sec:Nat->Bool
 cl:Nat
 ins:Nat->Ins

def J0r(rl:Nat)(log:Nat->Int):Prop:=rl<=6/\∀i,i < rl->0<=log i/\log i<=6

def Reg(regs x:Int):Prop:=0<=x/\x < regs
def Rgn(rl:Nat)(x:Int):Prop:=0<=x/\x < rl
def Plc(cl:Nat)(x:Int):Prop:=0<=x/\x < cl
def Wrd(log:Nat->Int)(c n:Int):Prop:=0<=n/\n < 2 ^ (log c.toNat).toNat

def InsOk(rl:Nat)(log:Nat->Int)(cl:Nat)(regs:Int)(i:Ins):Prop:=
 if i.op=1 then Reg regs i.a/\i.b=0/\i.c=0
 else if i.op=2 then Reg regs i.a/\Reg regs i.b/\i.c=0/\i.n=0
 else if i.op=3 then Reg regs i.a/\Reg regs i.b/\Rgn rl i.c
 else if i.op=4 then Reg regs i.a/\Reg regs i.b/\Rgn rl i.c
 else if i.op=5 then Reg regs i.a/\i.b=0/\Rgn rl i.c/\Wrd log i.c i.n
 else if i.op=6 then Reg regs i.a/\i.b=0/\Rgn rl i.c/\Wrd log i.c i.n
 else if i.op=7 then i.a=0/\i.b=0/\i.c=0/\Plc cl i.n
 else if i.op=8 then Reg regs i.a/\Reg regs i.b/\(1<=i.c/\i.c<=4)/\Plc cl i.n
 else if i.op=9 then Reg regs i.a/\i.b=0/\i.c=0/\i.n=0
 else if i.op=10 then Reg regs i.a/\Reg regs i.b/\i.c=0
 else if i.op=11 then Reg regs i.a/\i.b=0/\i.c=0/\1<=i.n/\i.n<=64
 else if i.op=12 then i.a=0/\i.b=0/\i.c=0/\i.n=0
 else(21<=i.op/\i.op<=30)/\Reg regs i.a/\Reg regs i.b/\Reg regs i.c/\i.n=0

def Jfa(rl:Nat)(log:Nat->Int)(cl:Nat)(ins:Nat->Ins)(most:Nat)(regs:Int):Prop:=
 1<=cl/\cl<=most/\∀i,i < cl->InsOk rl log cl regs (ins i)

def Prg.Ok(p:Prg)(most:Nat)(regs:Int):Prop:=J0r p.rl p.log/\Jfa p.rl p.log p.cl p.ins most regs

def RegsAt(w:World)(b o rl:Nat)(log:Nat->Int)(sec:Nat->Bool):Prop:=
 ∀i,i < rl->w.cell? ⟨b,o+i*2,none⟩=some (V (log i))/\w.cell? ⟨b,o+i*2+1,none⟩=some (.bool (sec i))
def CodeAt(w:World)(b o cl:Nat)(ins:Nat->Ins):Prop:=
 ∀i,i < cl->w.cell? ⟨b,o+i*5,none⟩=some (V (ins i).op)/\w.cell? ⟨b,o+i*5+1,none⟩=some (V (ins i).a)/\w.cell? ⟨b,o+i*5+2,none⟩=some (V (ins i).b)/\
  w.cell? ⟨b,o+i*5+3,none⟩=some (V (ins i).c)/\w.cell? ⟨b,o+i*5+4,none⟩=some (V (ins i).n)

theorem RegsAt.more{w w':World}(m:More w w'){b o rl:Nat}{log:Nat->Int}{sec:Nat->Bool}(h:RegsAt w b o rl log sec):RegsAt w' b o rl log sec:=
 fun i hi=>⟨m.cell (h i hi).1,m.cell (h i hi).2⟩
theorem CodeAt.more{w w':World}(m:More w w'){b o cl:Nat}{ins:Nat->Ins}(h:CodeAt w b o cl ins):CodeAt w' b o cl ins:=
 fun i hi=>⟨m.cell (h i hi).1,m.cell (h i hi).2.1,m.cell (h i hi).2.2.1,m.cell (h i hi).2.2.2.1,m.cell (h i hi).2.2.2.2⟩

structure Loc where
 ra:Option Addr
 rb:Nat
 ro:Nat
 rc:Nat
 ca:Option Addr
 cb:Nat
 co:Nat
 cc:Nat

structure PIn(w:World)(p:Prg)(l:Loc):Prop where
 hr:0 < p.rl->l.ra=some ⟨l.rb,l.ro,none⟩
 hc:0 < p.cl->l.ca=some ⟨l.cb,l.co,none⟩
 regs:RegsAt w l.rb l.ro p.rl p.log p.sec
 code:CodeAt w l.cb l.co p.cl p.ins

theorem PIn.more{w w':World}(m:More w w'){p:Prg}{l:Loc}(h:PIn w p l):PIn w' p l:=⟨h.hr,h.hc,h.regs.more m,h.code.more m⟩

def Blw(n e:Int):Prop:=0<=n/\n < e
def Btw(a b c:Int):Prop:=a<=c/\c<=b

def J0h(l:Int):Int:=2 ^ l.toNat

theorem J2p{k:Nat}(h:k<=6):(1:Int)<=2 ^ k/\(2:Int) ^ k<=64:=by
 have:k=0\/k=1\/k=2\/k=3\/k=4\/k=5\/k=6:=by omega
 rcases this with rfl | rfl | rfl | rfl | rfl | rfl | rfl<;>decide

theorem Says.is_yes{P:Prop}(h:P){w:World}{e:Ending}{w':World}(s:Says P w e w'):e=.returned (.bool true)/\More w w':=by
 obtain⟨r,rfl,hr,m⟩:=s;cases r
 ·simpa using hr.2 h
 ·exact⟨rfl,m⟩
theorem Says.is_no{P:Prop}(h:¬P){w:World}{e:Ending}{w':World}(s:Says P w e w'):e=.returned (.bool false)/\More w w':=by
 obtain⟨r,rfl,hr,m⟩:=s;cases r
 ·exact⟨rfl,m⟩
 ·exact absurd (hr.1 rfl) h

def ListsAt(w:World)(b o ml:Nat)(A:Nat->Option Addr)(L C:Nat->Nat):Prop:=∀i,i < ml->w.cell? ⟨b,o+i,none⟩=some (.slice (A i) (L i) (C i))
theorem ListsAt.more{w w':World}(m:More w w'){b o ml:Nat}{A:Nat->Option Addr}{L C:Nat->Nat}(h:ListsAt w b o ml A L C):ListsAt w' b o ml A L C:=fun i hi=>m.cell (h i hi)

def J2r(rl:Nat)(log:Nat->Int)(ml:Nat)(L:Nat->Nat):Prop:=J0r rl log/\ml=rl/\∀i,i < rl->(L i:Int)=J0h (log i)
end
section
open Go.RowKit
set_option linter.unusedSimpArgs false
set_option linter.unusedVariables false
abbrev txt(l:List UInt8):ByteArray:=⟨l.toArray⟩
theorem J1k(x y:List UInt8):txt x++txt y=txt (x++y):=ByteArray.mk_append_mk x y
theorem J0e(x:List UInt8):(txt x).size=x.length:=by show x.toArray.size=_;simp

def dig:Nat->Nat->List UInt8
 | 0,_=>[]
 | f+1,k=>(if k / 10=0 then[] else dig f (k / 10))++[UInt8.ofNat (48+k % 10)]
theorem J54:∀f k,(dig f k).length<=f
 | 0,_=>Nat.le_refl _
 | f+1,k=>by
  rw[dig,List.length_append]
  split
  ·simp
  ·have:=J54 f (k / 10);simp;omega
def digI(n:Int):List UInt8:=(if n < 0 then[45] else[])++dig 20 n.natAbs
theorem J0m(n:Int):(digI n).length<=21:=by
 unfold digI;have:=J54 20 n.natAbs;rw[List.length_append]
 split<;>simp<;>omega
def wordL(op c:Int):List UInt8:=
 if op=21 then[97,100,100] else
 if op=22 then[115,117,98] else
 if op=23 then[109,117,108] else
 if op=24 then[97,110,100] else
 if op=25 then[111,114] else
 if op=26 then[120,111,114] else
 if op=27 then[115,104,108] else
 if op=28 then[115,104,114] else
 if op=29 then[100,105,118] else
 if op=30 then[109,111,100] else
 if op=8/\c=1 then[115,97,109,101] else
 if op=8/\c=2 then[111,116,104,101,114] else
 if op=8/\c=3 then[108,101,115,115] else
 if op=8/\c=4 then[109,111,115,116] else
 if op=1 then[115,101,116] else
 if op=2 then[109,111,118,101] else
 if op=3 then[108,111,97,100] else
 if op=4 then[112,117,116] else
 if op=5 then[108,111,97,100,107] else
 if op=6 then[112,117,116,107] else
 if op=7 then[106,117,109,112] else
 if op=9 then[104,97,108,116] else
 if op=10 then[112,108,117,115] else
 if op=11 then[109,97,115,107] else
 if op=12 then[102,101,110,99,101] else
 []
def folL(op:Int):List UInt8:=
 if 20 < op then[65,66,67] else
 if op=1\/op=11 then[65,78] else
 if op=2 then[65,66] else
 if op=10\/op=8 then[65,66,78] else
 if op=3\/op=4 then[65,68,66,78] else
 if op=5\/op=6 then[65,68,78] else
 if op=7 then[78] else
 if op=9 then[65] else[]
def HasW(op c:Int):Prop:=(21<=op/\op<=30)\/(op=8/\1<=c/\c<=4)\/(0<=op/\op<=12/\¬op=8)
def Jcz(i:Ins)(f:UInt8):List UInt8:=
 if f=65 then[32,114]++digI i.a else if f=66 then[32,114]++digI i.b else if f=67 then[32,114]++digI i.c else if f=68 then[32,103]++digI i.c else[32]++digI i.n
theorem Jbh(i:Ins)(f:UInt8):(Jcz i f).length<=23:=by
 unfold Jcz;have h1:=J0m i.a;have h2:=J0m i.b;have h3:=J0m i.c;have h4:=J0m i.n
 repeat' split
 all_goals simp;omega
def J70(i:Ins)(F:List UInt8):Nat->List UInt8
 | 0=>[]
 | k+1=>J70 i F k++(match F[k]? with | some f=>Jcz i f | none=>[])
theorem J5f(i:Ins)(F:List UInt8):∀k,(J70 i F k).length<=23*k
 | 0=>Nat.le_refl _
 | k+1=>by
  rw[J70,List.length_append];have:=J5f i F k;cases F[k]? with
  | none=>simp;omega
  | some f=>have:=Jbh i f;dsimp only;omega
theorem Jiq{c:Prop}[Decidable c]{x y:List UInt8}{n:Nat}(hx:x.length<=n)(hy:y.length<=n):(if c then x else y).length<=n:=by split<;>assumption
theorem Jdi(op c:Int):(wordL op c).length<=5:=by
 unfold wordL
 iterate 25 refine Jiq (by decide) ?_
 decide
theorem Jdy(op:Int):(folL op).length<=4:=by
 unfold folL
 iterate 8 refine Jiq (by decide) ?_
 decide
def lineL(i:Ins):List UInt8:=wordL i.op i.c++J70 i (folL i.op) (folL i.op).length++[10]
theorem J7i(i:Ins):(lineL i).length<=100:=by
 unfold lineL;have h1:=Jdi i.op i.c;have h2:=Jdy i.op;have h3:=J5f i (folL i.op) (folL i.op).length;simp only[List.length_append,List.length_cons,List.length_nil];omega
def regL(log:Int)(sec:Bool):List UInt8:=[114,101,103,105,111,110,32]++digI log++(if sec then[32,115,101,99,114,101,116,10] else[32,112,117,98,108,105,99,10])
theorem J5u(log:Int)(sec:Bool):(regL log sec).length<=36:=by
 unfold regL;have:=J0m log;cases sec<;>simp<;>omega
def regsL(p:Prg):Nat->List UInt8
 | 0=>[]
 | k+1=>regsL p k++regL (p.log k) (p.sec k)
def insL_(p:Prg):Nat->List UInt8
 | 0=>[]
 | k+1=>insL_ p k++lineL (p.ins k)
theorem J2u(p:Prg):∀k,(regsL p k).length<=36*k
 | 0=>Nat.le_refl _
 | k+1=>by
  rw[regsL,List.length_append];have:=J2u p k;have:=J5u (p.log k) (p.sec k);omega
theorem J3f(p:Prg):∀k,(insL_ p k).length<=100*k
 | 0=>Nat.le_refl _
 | k+1=>by
  rw[insL_,List.length_append];have:=J3f p k;have:=J7i (p.ins k);omega
def textL(p:Prg):List UInt8:=regsL p p.rl++insL_ p p.cl
theorem Jip{rl:Nat}{log:Nat->Int}{cl:Nat}{r:Int}{i:Ins}(h:InsOk rl log cl r i):HasW i.op i.c:=by
 unfold InsOk at h;unfold HasW;by_cases a1:i.op=1;· omega
 by_cases a2:i.op=2;· omega
 by_cases a3:i.op=3;· omega
 by_cases a4:i.op=4;· omega
 by_cases a5:i.op=5;· omega
 by_cases a6:i.op=6;· omega
 by_cases a7:i.op=7;· omega
 by_cases a8:i.op=8
 ·simp[a8]at h
  omega
 by_cases a9:i.op=9;· omega
 by_cases a10:i.op=10;· omega
 by_cases a11:i.op=11;· omega
 by_cases a12:i.op=12;· omega
 simp[a1,a2,a3,a4,a5,a6,a7,a8,a9,a10,a11,a12]at h;omega
def Bld(w:World)(B b:Nat)(l:List UInt8):Prop:=Lib.IsBuilderF 67 5 B b (Lib.byteCells l) w
abbrev Oth(b:Nat)(w w':World):Prop:=Lib.OthersKept 5 (some b) w w'

theorem Jfg:(Tryz.prog.info? 67).map (·.size)=some 2:=by kernel_rfl
theorem Jk4:liesAt Tryz.prog Tryz.prog.depth 67 (2 / Tryz.prog.cellsOf 67) 0 67 1=true:=by kernel_rfl
theorem Jc8:(Tryz.prog.info? 5).map (fun i=>(i.zero,i.size,i.bytes))=some (some (.int .u8 0),1,1):=by kernel_rfl

theorem Jp5{P:Program}(w:World){src dst t e:TypeId}{j:TypeInfo}{n:Nat}(a:Addr)(hs:P.underlying src=some (.pointer t))(hd:P.underlying dst=some .unsafePointer)(ht:P.info? t=some j)(hj:j.size≠0)(hsh:w.shape? a.block=some (e,n))(ho:a.off < n):
    (convert src dst (.pointer (some a))).run P w=.ok (.pointer (some a)) w:=by
  have hno:¬n=a.off:=by omega
  simp[convert,run_underlying hs,run_underlying hd,Conv.unsafePointer,Conv.seenAt,viewAt,cellsIn,hsh,sizeOf,typeInfo,ht,hj]
  all_goals (intro q;omega)
theorem Jlx{P:Program}(w:World){src dst u e:TypeId}{j:TypeInfo}{n:Nat}(a:Addr)(hs:P.underlying src=some .unsafePointer)(hd:P.underlying dst=some (.pointer u))(hu:P.info? u=some j)(hsh:w.shape? a.block=some (e,n))(hl:liesAt P P.depth e (n / P.cellsOf e) a.off u 1=true):
    (convert src dst (.pointer (some a))).run P w=.ok (.pointer (some a)) w:=by
  simp[convert,run_underlying hs,run_underlying hd,Conv.unsafePointer,Conv.seenAt,viewAt,hsh,variablesAt,hl,sizeOf,typeInfo,hu]

set_option maxRecDepth 100000 in
theorem Jdu(b:Nat)(w:World)(h0:w.cell? ⟨b,0,none⟩=some (.pointer none))(hsh:w.shape? b=some (67,2))(hfz:w.frozen? ⟨b,0,none⟩=false):
    Calls Tryz.prog 44 #[.pointer (some ⟨b,0,none⟩)] w fun e w'=>e=.returned (.tuple #[])/\w'=w.setCell ⟨b,0,none⟩ (.pointer (some ⟨b,0,none⟩)):=by
  obtain⟨j,hj,hjs⟩:=Option.map_eq_some_iff.1 Jfg;go_enter Tryz.func44,Tryz.ntmps44;go_wp2;rw[Jp5 w ⟨b,0,none⟩ Tryz.underlying64 Tryz.underlying153 hj (by rw[hjs];decide) hsh (Nat.zero_lt_succ 1)];simp only[Result.andThen];rw[Oper.upon_value];go_wp2;rw[run_callFunc_extern Tryz.func86 (by kernel_rfl) (by kernel_rfl) (by kernel_rfl) (e:=Extern.AbiNoEscape.same) (by kernel_rfl)];rw[Lib.run_noEscape];simp only[Result.andThen];rw[Oper.upon_value];go_wp2;rw[Jlx w ⟨b,0,none⟩ Tryz.underlying153 Tryz.underlying64 hj hsh Jk4];simp only[Result.andThen];rw[Oper.upon_value];go_wp2;go_end0;exact⟨rfl,rfl⟩
set_option maxRecDepth 100000 in
theorem Jgd(b:Nat)(w:World)(h0:w.cell? ⟨b,0,none⟩=some (.pointer (some ⟨b,0,none⟩))):
    Calls Tryz.prog 44 #[.pointer (some ⟨b,0,none⟩)] w fun e w'=>e=.returned (.tuple #[])/\w'=w:=by
  obtain⟨j,hj,hjs⟩:=Option.map_eq_some_iff.1 Jfg;have hne:∀w1,(binOp .neq 64 (.pointer (some ⟨b,0,none⟩)) (.pointer (some ⟨b,0,none⟩))).run Tryz.prog w1=.ok (.bool false) w1:=fun w1=>Lib.run_neq_ptr_same w1 ⟨b,0,none⟩ Tryz.underlying64 hj
  go_enter Tryz.func44,Tryz.ntmps44;go_wp2;go_end0;exact⟨rfl,rfl⟩
theorem J8a(B b:Nat)(bs:List Value)(w:World)(h:Lib.IsBuilderF 67 5 B b bs w):
    Calls Tryz.prog 44 #[.pointer (some ⟨b,0,none⟩)] w fun e w'=>e=.returned (.tuple #[])/\(Lib.BuilderAtF 67 5 B b (.pointer (some ⟨b,0,none⟩)) bs w'/\Below B w w'/\Oth b w w'):=by
  rcases h with h | h
  · refine(Jdu b w h.cell0 h.shape h.frozen0).mono ?_
    rintro e w' ⟨rfl,rfl⟩;exact⟨rfl,h.used _,(Below.refl B w).setCell (p:=⟨b,0,none⟩) h.1 _,(Lib.OthersKept.refl _ _ w).setCell ⟨b,0,none⟩ rfl _⟩
  · refine(Jgd b w h.cell0).mono ?_
    rintro e w' ⟨rfl,rfl⟩;exact⟨rfl,h,Below.refl B _,Lib.OthersKept.refl _ _ _⟩

theorem Jdc(l:List UInt8):Lib.strCells (txt l)=Lib.byteCells l:=rfl

set_option maxRecDepth 100000 in
theorem J1d(B b:Nat)(l m:List UInt8)(w:World)(h:Bld w B b l)(hlen:l.length+m.length<=140737488355328)(hBw:B<=w.heap.size):
    Calls Tryz.prog 20 #[.pointer (some ⟨b,0,none⟩),.string (txt m)] w fun e w'=>e=.returned (.tuple #[V m.length,.nilIface])/\Bld w' B b (l++m)/\Below B w w'/\Oth b w w':=by
  have hsz:(txt m).size=m.length:=J0e m;have hll:(Lib.byteCells l).length=l.length:=Lib.byteCells_length l;obtain⟨bs,Hbs⟩:∃x,Hid (Lib.byteCells l=x):=⟨_,rfl⟩;obtain⟨ms,Hms⟩:∃x,Hid (txt m=x):=⟨_,rfl⟩
  have HF:Hid (∀w',Lib.BuilderAtF 67 5 B b (.pointer (some ⟨b,0,none⟩)) (bs++Lib.strCells ms) w'->Bld w' B b (l++m)):=fun w' h'=>by
    refine Or.inr ?_;rw[Lib.byteCells_append,Hbs.out,<-Jdc,Hms.out];exact h'
  have h:Lib.IsBuilderF 67 5 B b bs w:=Hbs.out▸h;rw[Hbs.out]at hll;rw[Hms.out]at hsz |-;obtain⟨i0,hi,hz0,hz1,hz2⟩:=info_parts Jc8;go_enter Tryz.func20,Tryz.ntmps20;go_wp2_with (go_at_call 44;refine(J8a B b bs _ h).mono ?_)
  rintro e w1 ⟨rfl,h1,hb1,hk1⟩;obtain⟨hB,v,hbk,hown,hne⟩:=h1;have c0:w1.cell? ⟨b,0,none⟩=some (.pointer (some ⟨b,0,none⟩)):=by rw[Lib.cell_of_heap hbk];rfl
  have c1:w1.cell? ⟨b,1,none⟩=some v:=by rw[Lib.cell_of_heap hbk];rfl
  go_wp2_with (at_builtin;refine Lib.wpList_append_own_stringF _ rfl _ _ 65 9 rfl B 5 i0 Tryz.underlying65 Tryz.underlying9 hi hz0 hz1 hz2 _ _ _ rfl hown ms rfl ?c3 ?c4 ?c5 ?_)
  case c3=>unfold maxLen;omega
  case c4=>omega
  case c5=>have:=hb1.size;omega
  intro v' w2 hown' hgrow _
  have hlt:b < w1.heap.size:=by
    rcases Nat.lt_or_ge b w1.heap.size with h' | h'
    · exact h'
    · simp[Array.getElem?_eq_none h']at hbk
  have hb2:w2.heap[b]?=some (.cells #[.pointer (some ⟨b,0,none⟩),v] 67 (0,0)):=by
    rw[hgrow.block b hlt (fun e=>hne e.symm)];exact hbk
  have d0:w2.cell? ⟨b,0,none⟩=some (.pointer (some ⟨b,0,none⟩)):=by rw[Lib.cell_of_heap hb2];rfl
  have d1:w2.cell? ⟨b,1,none⟩=some v:=by rw[Lib.cell_of_heap hb2];rfl
  have f1:w2.frozen? ⟨b,1,none⟩=false:=Lib.frozen_of_heap hb2 1
  obtain⟨ao,n',cap,rfl⟩:∃ao n' cap,v'=.slice ao n' cap:=by
    rcases hown'.2 with⟨hv,_⟩ | ⟨g,cap,cur,fz,hv,_⟩
    · exact⟨_,_,_,hv⟩
    · exact⟨_,_,_,hv⟩
  go_wp2;go_ret2;refine⟨rfl,HF.out _ ?_,?_,(hk1.grown hgrow (Lib.ownsRowF_kind hown)).setCell ⟨b,1,none⟩ rfl _⟩
  · exact Lib.BuilderAtF.put (T:=67) (e:=5) hB hb2 (bs':=bs++Lib.strCells ms) (by rw[List.length_append,Lib.strCells_length,hll,hsz];exact hown') (by decide)
  · exact(hb1.grown hgrow (by have:=hb1.size;omega) (fun k hk=>(hown.lt k hk).1)).setCell (p:=⟨b,1,none⟩) hB _

set_option maxRecDepth 100000 in
theorem Jm2(B:Nat)(v:Value)(n:Nat)(xs:List Value)(r:Int)(h0:0<=r)(h1:r<=127)(w:World)(hown:w.ownsRowF B 5 1 v n xs)(hlen:n+4<=140737488355328)(hBw:B<=w.heap.size):
    Calls Tryz.prog 135 #[v,.int .i32 r] w fun e w'=>∃v',e=.returned v'/\w'.ownsRowF B 5 1 v' (n+1) (xs++[.int .u8 r])/\∃o,(w.alloc o).grownBy w' v.ownBlock:=by
  suffices hP:∀P:Ending->World->Prop,(∀v' w',w'.ownsRowF B 5 1 v' (n+1) (xs++[.int .u8 r])->(∃o,(w.alloc o).grownBy w' v.ownBlock)->P (.returned v') w')->Calls Tryz.prog 135 #[v,.int .i32 r] w P from hP _ (fun v' w' a b=>⟨v',rfl,a,b⟩)
  intro P hP0;have HP:Hid (∀v' w',w'.ownsRowF B 5 1 v' (n+1) (xs++[.int .u8 r])->(∃o,(w.alloc o).grownBy w' v.ownBlock)->P (.returned v') w'):=hP0;clear hP0;obtain⟨i0,hi,hz0,hz1,hz2⟩:=info_parts Jc8;go_enter Tryz.func135,Tryz.ntmps135;go_wp2_with (at_builtin;refine wpList_append_ownF _ rfl _ _ 65 rfl B 5 i0 (.int .u8 0) 1 1 Tryz.underlying65 hi hz0 hz1 hz2 rfl (by decide) _ _ _ rfl (hown.alloc _) ⟨w.heap.size,0,none⟩ 1 1 [.int .u8 r] rfl rfl ?c1 ?c2 ?c3 ?c4 ?c5 ?_)
  all_goals first
    | (intro v' w2 hown' hgrow _;have HE:Hid (P (.returned v') w2):=HP.out v' w2 hown' ⟨_,hgrow⟩;clear HP hown' hgrow;go_wp2;exact HE.out)
    | (unfold maxLen;omega)
    | omega
    | (simp;omega)
    | rfl
    | (intro u hu;simp at hu;subst hu;rfl)
    | (intro j u hj
       match j,hj with
       | 0,hj=>simp at hj;subst hj;simp[Addr.add]
       | (j+1),hj=>simp at hj)

set_option maxRecDepth 100000 in
theorem Jhm(B b:Nat)(l:List UInt8)(c:UInt8)(hc:c.toNat < 128)(w:World)(h:Bld w B b l)(hlen:l.length+4<=140737488355328)(hBw:B<=w.heap.size):
    Calls Tryz.prog 114 #[.pointer (some ⟨b,0,none⟩),.int .i32 c.toNat] w fun e w'=>e=.returned (.tuple #[V 1,.nilIface])/\Bld w' B b (l++[c])/\Below B w w'/\Oth b w w':=by
  suffices hP:∀P:Ending->World->Prop,(∀w',Bld w' B b (l++[c])->Below B w w'->Oth b w w'->P (.returned (.tuple #[V 1,.nilIface])) w')->Calls Tryz.prog 114 #[.pointer (some ⟨b,0,none⟩),.int .i32 c.toNat] w P from hP _ (fun w' x y z=>⟨rfl,x,y,z⟩)
  intro P hP0;have HP:Hid (∀w',Bld w' B b (l++[c])->Below B w w'->Oth b w w'->P (.returned (.tuple #[V 1,.nilIface])) w'):=hP0;clear hP0;have hll:(Lib.byteCells l).length=l.length:=Lib.byteCells_length l;obtain⟨bs,Hbs⟩:∃x,Hid (Lib.byteCells l=x):=⟨_,rfl⟩;obtain⟨r,Hr⟩:∃x:Int,Hid ((c.toNat:Int)=x):=⟨_,rfl⟩
  have HF:Hid (∀w',Lib.BuilderAtF 67 5 B b (.pointer (some ⟨b,0,none⟩)) (bs++[.int .u8 r]) w'->Bld w' B b (l++[c])):=fun w' h'=>by
    refine Or.inr ?_;rw[Lib.byteCells_append,Hbs.out];show Lib.BuilderAtF _ _ B b _ (bs++[.int .u8 c.toNat]) w';rw[Hr.out];exact h'
  have h:Lib.IsBuilderF 67 5 B b bs w:=Hbs.out▸h;rw[Hbs.out]at hll;rw[<-hll]at hlen;clear hll;have hr0:0<=r:=by rw[<-Hr.out];omega
  have hr1:r<=127:=by rw[<-Hr.out];omega
  rw[Hr.out];go_enter Tryz.func114,Tryz.ntmps114;go_wp2_with (go_at_call 44;refine(J8a B b bs _ h).mono ?_)
  rintro e w1 ⟨rfl,h1,hb1,hk1⟩;obtain⟨hB,v,hbk,hown,hne⟩:=h1
  obtain⟨ao,cap,rfl⟩:∃ao cap,v=.slice ao bs.length cap:=by
    rcases hown.2 with⟨hv,h0⟩ | ⟨g,cap,cur,fz,hv,_⟩
    · exact⟨none,0,by rw[hv,h0]⟩
    · exact⟨_,_,hv⟩
  have c0:w1.cell? ⟨b,0,none⟩=some (.pointer (some ⟨b,0,none⟩)):=by rw[Lib.cell_of_heap hbk];rfl
  have c1:w1.cell? ⟨b,1,none⟩=some (.slice ao bs.length cap):=by rw[Lib.cell_of_heap hbk];rfl
  go_wp2_with (go_at_call 135;refine(Jm2 B _ bs.length bs r hr0 hr1 _ hown (by omega) (by have:=hb1.size;omega)).mono ?_)
  rintro e w2 ⟨v',rfl,hown',o,hgrow⟩
  have hlt:b < w1.heap.size:=by
    rcases Nat.lt_or_ge b w1.heap.size with h' | h'
    · exact h'
    · simp[Array.getElem?_eq_none h']at hbk
  have hb2:w2.heap[b]?=some (.cells #[.pointer (some ⟨b,0,none⟩),.slice ao bs.length cap] 67 (0,0)):=by
    rw[hgrow.block b (by simp;omega) (fun e=>hne e.symm),Lib.alloc_old w1 _ b hlt];exact hbk
  have d0:w2.cell? ⟨b,0,none⟩=some (.pointer (some ⟨b,0,none⟩)):=by rw[Lib.cell_of_heap hb2];rfl
  have d1:w2.cell? ⟨b,1,none⟩=some (.slice ao bs.length cap):=by rw[Lib.cell_of_heap hb2];rfl
  have f1:w2.frozen? ⟨b,1,none⟩=false:=Lib.frozen_of_heap hb2 1
  obtain⟨g,cap',rfl⟩:∃g cap',v'=.slice (some ⟨g,0,none⟩) (bs.length+1) cap':=by
    rcases hown'.2 with⟨_,h0⟩ | ⟨g,cap',cur,fz,hv,_⟩
    · omega
    · exact⟨g,cap',hv⟩
  have e1:((bs.length:Int)+1 - (bs.length:Int))=1:=by omega
  have HE:Hid (P (.returned (.tuple #[V 1,.nilIface])) (w2.setCell ⟨b,1,none⟩ (.slice (some ⟨g,0,none⟩) (bs.length+1) cap'))):=by
    refine HP.out _ (HF.out _ ?_) ?_ (((hk1.alloc _).grown hgrow (Lib.ownsRowF_kind (hown.alloc _))).setCell ⟨b,1,none⟩ rfl _)
    · exact Lib.BuilderAtF.put (T:=67) (e:=5) hB hb2 (bs':=bs++[.int .u8 r]) (by simpa using hown') (by decide)
    · exact((hb1.alloc (by have:=hb1.size;omega) _).grown hgrow (by have:=hb1.size;simp;omega) (fun k hk=>(hown.lt k hk).1)).setCell (p:=⟨b,1,none⟩) hB _
  clear HP HF hown hown' hgrow hk1 hb1 hbk hb2 h;go_wp2;exact HE.out

theorem J29(B b:Nat)(l:List UInt8)(w:World)(h:Bld w B b l)(hBw:B<=w.heap.size):
    Calls Tryz.prog 22 #[.pointer (some ⟨b,0,none⟩)] w fun e w'=>e=.returned (.string (txt l))/\Bld w' B b l/\Below B w w'/\Oth b w w':=
  Any.Builder_String_any_k Tryz.lays169 Tryz.Builder_Extra_169 B b l w h hBw
theorem J3r(w:World):Bld (w.alloc (.cells #[.pointer none,.slice none 0 0] 67)) w.heap.size w.heap.size []:=Lib.IsBuilderF.of (Lib.fresh_isBuilder _ _ w)
theorem Bld.alloc{w:World}{B b:Nat}{l:List UInt8}(h:Bld w B b l)(o:Obj):Bld (w.alloc o) B b l:=Lib.IsBuilderF.alloc h o
def Blk(w:World)(n:Nat)(cs:Array Value)(T:TypeId):Prop:=w.heap[n]?=some (.cells cs T (0,0))
theorem Blk.lt{w:World}{n:Nat}{cs:Array Value}{T:TypeId}(h:Blk w n cs T):n < w.heap.size:=by
 rcases Nat.lt_or_ge n w.heap.size with q | q
 ·exact q
 ·unfold Blk at h;simp[q]at h
theorem Blk.more{w w':World}{n:Nat}{cs:Array Value}{T:TypeId}(m:More w w')(h:Blk w n cs T):Blk w' n cs T:=(m.block n h.lt).trans h
theorem Blk.cell{w:World}{n:Nat}{cs:Array Value}{T:TypeId}(h:Blk w n cs T){j:Nat}{v:Value}(e:cs[j]?=some v):w.cell? ⟨n,j,none⟩=some v:=by rw[cell_of_row _ _ _ _ _ _ h];exact e
theorem Blk.frozen{w:World}{n:Nat}{cs:Array Value}{T:TypeId}(h:Blk w n cs T)(j:Nat):w.frozen? ⟨n,j,none⟩=false:=frozen_of_row _ _ _ _ _ h
theorem Blk.last(w:World)(cs:Array Value)(T:TypeId):Blk (w.alloc (.cells cs T)) w.heap.size cs T:=heap_alloc_last _ _
theorem Blk.other{w:World}{n:Nat}{cs:Array Value}{T:TypeId}(h:Blk w n cs T){b:Nat}(hb:b≠n)(o:Nat)(v:Value):Blk (w.setCell ⟨b,o,none⟩ v) n cs T:=(Below.heap_setCell _ _ _ _ (fun e=>hb e.symm)).trans h
theorem Blk.drew{w:World}{n:Nat}{c:Array Value}{T:TypeId}(h:Blk w n c T):Blk w.drew n c T:=h
theorem Blk.alloc{w:World}{n:Nat}{c:Array Value}{T:TypeId}(h:Blk w n c T)(d:Array Value)(U:TypeId):Blk (w.alloc (.cells d U)) n c T:=h.more ((More.refl _).alloc _ _)
theorem Blk.put{w:World}{n:Nat}{cs:Array Value}{T:TypeId}(h:Blk w n cs T)(j:Nat)(v:Value):Blk (w.setCell ⟨n,j,none⟩ v) n (cs.setIfInBounds j v) T:=by
 unfold Blk at h |-;unfold World.setCell;simp[Array.getElem?_modify,h]
end
section
open Go.RowKit
structure Se where
 kind:Int
 a:Int
 b:Int

def Jom(w:World)(b o:Nat)(l:List Se):Prop:=
 ∀i s,l[i]?=some s->w.cell? ⟨b,o+i*3,none⟩=some (V s.kind)/\w.cell? ⟨b,o+i*3+1,none⟩=some (V s.a)/\w.cell? ⟨b,o+i*3+2,none⟩=some (V s.b)
def Jfb(w:World)(v:Value)(l:List Se):Prop:=
 ∃(a:Option Addr) (b o c:Nat),v=.slice a l.length c/\(0 < l.length->a=some ⟨b,o,none⟩)/\Jom w b o l/\l.length < 4611686018427387904
structure Mem where
 ml:Nat
 len:Nat->Nat
 wd:Nat->Nat->Int
structure MLoc where
 ma:Option Addr
 mb:Nat
 mo:Nat
 mc:Nat
 A:Nat->Option Addr
 C:Nat->Nat
 gb:Nat->Nat
 go:Nat->Nat

structure MIn(w:World)(m:Mem)(l:MLoc):Prop where
 hm:0 < m.ml->l.ma=some ⟨l.mb,l.mo,none⟩
 lists:ListsAt w l.mb l.mo m.ml l.A m.len l.C
 hg:∀i,i < m.ml->0 < m.len i->l.A i=some ⟨l.gb i,l.go i,none⟩
 words:∀i,i < m.ml->∀j,j < m.len i->w.cell? ⟨l.gb i,l.go i+j,none⟩=some (V (m.wd i j))
 fitl:m.ml < 4611686018427387904
 fitw:∀i,i < m.ml->m.len i < 4611686018427387904
theorem MIn.more{w w':World}(m:More w w'){x:Mem}{l:MLoc}(h:MIn w x l):MIn w' x l:=
 ⟨h.hm,h.lists.more m,h.hg,fun i hi j hj=>m.cell (h.words i hi j hj),h.fitl,h.fitw⟩

structure Mem.Like(x y:Mem):Prop where
 ml:x.ml=y.ml
 len:∀i,i < x.ml->x.len i=y.len i
 wd:∀i,i < x.ml->∀j,j < x.len i->x.wd i j=y.wd i j

structure Sh where
 fin:Int
 val:Int
 steps:Int
 seen:List Se
 mem:Mem

def J3j(w:World)(v:Value)(x:Sh):Prop:=
 ∃(sv:Value) (l:MLoc),v=.agg #[V x.fin,V x.val,V x.steps,sv,.slice l.ma x.mem.ml l.mc]/\Jfb w sv x.seen/\MIn w x.mem l
def toU(a:Int):Nat:=(a % 18446744073709551616).toNat

theorem J30(a:Int):((toU a:Nat):Int)=a % 18446744073709551616:=by unfold toU;omega
theorem J6o(a:Int):toU a < 18446744073709551616:=by unfold toU;omega

def opI(op a b:Int):Int:=
 if op=1 then wrap64 (a+b)
 else if op=2 then wrap64 (a - b)
 else if op=3 then wrap64 (a*b)
 else if op=4 then wrap64 ((toU a &&& toU b:Nat):Int)
 else if op=5 then wrap64 ((toU a ||| toU b:Nat):Int)
 else if op=6 then wrap64 ((toU a ^^^ toU b:Nat):Int)
 else if op=7 then wrap64 ((toU a*2 ^ (toU b % 64):Nat):Int)
 else if op=8 then wrap64 ((toU a / 2 ^ (toU b % 64):Nat):Int)
 else if op=9 then wrap64 ((toU a / toU b:Nat):Int)
 else if op=10 then wrap64 ((toU a % toU b:Nat):Int)
 else 0

def J1n(c a b:Int):Bool:=
 if c=1 then toU a==toU b
 else if c=2 then toU a != toU b
 else if c=3 then decide (toU a < toU b)
 else if c=4 then decide (toU b<=toU a)
 else false

theorem uwrap(a:Int):IntKind.u64.wrap a=((toU a:Nat):Int):=by rw[IntKind.wrap_u64,J30]

theorem J41(n:Int):wrap64 (IntKind.u64.wrap n)=wrap64 n:=by
 rw[IntKind.wrap_u64];unfold wrap64;omega

theorem Jmb(a b:Int):wrap64 (IntKind.u64.wrap (IntKind.u64.wrap a+IntKind.u64.wrap b))=wrap64 (a+b):=by
 rw[J41];simp only[IntKind.wrap_u64];unfold wrap64;omega
theorem Jmi(a b:Int):wrap64 (IntKind.u64.wrap (IntKind.u64.wrap a - IntKind.u64.wrap b))=wrap64 (a - b):=by
 rw[J41];simp only[IntKind.wrap_u64];unfold wrap64;omega
theorem Jmd(a b:Int):wrap64 (IntKind.u64.wrap (IntKind.u64.wrap a*IntKind.u64.wrap b))=wrap64 (a*b):=by
 have h:(a % 18446744073709551616*(b % 18446744073709551616)) % 18446744073709551616=(a*b) % 18446744073709551616:=by
  rw[<-Int.mul_emod]
 rw[J41];simp only[IntKind.wrap_u64];unfold wrap64;omega
theorem Jmc(a b:Int):wrap64 (bits .and .u64 (IntKind.u64.wrap a) (IntKind.u64.wrap b))=wrap64 ((toU a &&& toU b:Nat):Int):=by
 rw[uwrap,uwrap,u64_and_nat _ _ (J6o a) (J6o b)]
theorem Joj(a b:Int):wrap64 (bits .or .u64 (IntKind.u64.wrap a) (IntKind.u64.wrap b))=wrap64 ((toU a ||| toU b:Nat):Int):=by
 rw[uwrap,uwrap,u64_or_nat _ _ (J6o a) (J6o b)]
theorem Jmj(a b:Int):wrap64 (bits .xor .u64 (IntKind.u64.wrap a) (IntKind.u64.wrap b))=wrap64 ((toU a ^^^ toU b:Nat):Int):=by
 rw[uwrap,uwrap,u64_xor_nat _ _ (J6o a) (J6o b)]
theorem and63(y:Int):bits BinOp.and IntKind.u64 (IntKind.u64.wrap y) 63=((toU y % 64:Nat):Int):=by
 have h:=u64_and_nat (toU y) 63 (J6o y) (by decide);rw[uwrap];exact h.trans (by rw[nat_mask6])
theorem Jmg(a:Int)(k:Nat):wrap64 (IntKind.u64.wrap (IntKind.u64.wrap a*2 ^ k))=wrap64 ((toU a*2 ^ k:Nat):Int):=by
 rw[J41,uwrap];push_cast;rfl
theorem Jmh(a:Int)(k:Nat):wrap64 (IntKind.u64.wrap a / 2 ^ k)=wrap64 ((toU a / 2 ^ k:Nat):Int):=by
 rw[uwrap];push_cast;rfl
theorem Jme(a b:Int):wrap64 (IntKind.u64.wrap ((IntKind.u64.wrap a).tdiv (IntKind.u64.wrap b)))=wrap64 ((toU a / toU b:Nat):Int):=by
 rw[J41,uwrap,uwrap,Int.ofNat_tdiv]
theorem Jmf(a b:Int):wrap64 ((IntKind.u64.wrap a).tmod (IntKind.u64.wrap b))=wrap64 ((toU a % toU b:Nat):Int):=by
 rw[uwrap,uwrap,Int.ofNat_tmod]
theorem Jlt(a b:Int)(h:toU b=0):(0:Int)=wrap64 ((toU a / toU b:Nat):Int):=by
 rw[h,Nat.div_zero];unfold wrap64;omega
theorem Jlz(a b:Int)(h:toU b=0):wrap64 (IntKind.u64.wrap a)=wrap64 ((toU a % toU b:Nat):Int):=by
 rw[h,Nat.mod_zero,uwrap]

theorem Jkv(a b:Int):J1n 1 a b=(IntKind.u64.wrap a==IntKind.u64.wrap b):=by
 have h:=J30 a;have h':=J30 b;simp only[J1n,IntKind.wrap_u64];rw[Bool.eq_iff_iff];simp;omega
theorem Jkw(a b:Int):J1n 2 a b=(IntKind.u64.wrap a != IntKind.u64.wrap b):=by
 have h:=J30 a;have h':=J30 b;simp only[J1n,IntKind.wrap_u64];rw[Bool.eq_iff_iff];simp;omega
theorem Jkx(a b:Int):J1n 3 a b=decide (IntKind.u64.wrap a < IntKind.u64.wrap b):=by
 have h:=J30 a;have h':=J30 b;simp only[J1n,IntKind.wrap_u64];rw[Bool.eq_iff_iff];simp;omega
theorem Jky(a b:Int):J1n 4 a b=decide (IntKind.u64.wrap b<=IntKind.u64.wrap a):=by
 have h:=J30 a;have h':=J30 b;simp only[J1n,IntKind.wrap_u64];rw[Bool.eq_iff_iff];simp;omega

theorem opI_1(a b:Int):opI 1 a b=wrap64 (a+b):=by simp[opI]
theorem opI_2(a b:Int):opI 2 a b=wrap64 (a - b):=by simp[opI]
theorem opI_3(a b:Int):opI 3 a b=wrap64 (a*b):=by simp[opI]
theorem opI_4(a b:Int):opI 4 a b=wrap64 ((toU a &&& toU b:Nat):Int):=by simp[opI]
theorem opI_5(a b:Int):opI 5 a b=wrap64 ((toU a ||| toU b:Nat):Int):=by simp[opI]
theorem opI_6(a b:Int):opI 6 a b=wrap64 ((toU a ^^^ toU b:Nat):Int):=by simp[opI]
theorem opI_7(a b:Int):opI 7 a b=wrap64 ((toU a*2 ^ (toU b % 64):Nat):Int):=by simp[opI]
theorem opI_8(a b:Int):opI 8 a b=wrap64 ((toU a / 2 ^ (toU b % 64):Nat):Int):=by simp[opI]
theorem opI_9(a b:Int):opI 9 a b=wrap64 ((toU a / toU b:Nat):Int):=by simp[opI]
theorem Jp3(a b:Int):opI 10 a b=wrap64 ((toU a % toU b:Nat):Int):=by simp[opI]
def B64(x:Int):Prop := -9223372036854775808<=x/\x<=9223372036854775807
theorem Jf8(x:Int):B64 (wrap64 x):=by unfold B64 wrap64;omega
theorem J1g:B64 0:=by unfold B64;omega

def setR(r:Nat->Int)(a v:Int):Nat->Int:=fun j=>if j=a.toNat then v else r j
def setW(m:Mem)(c i:Nat)(v:Int):Mem:=⟨m.ml,m.len,fun x y=>if x=c/\y=i then v else m.wd x y⟩

def baseI(log:Nat->Int):Nat->Int
 | 0=>0
 | k+1=>baseI log k+J0h (log k)

def regsI(r:Nat->Int)(i:Ins):(Nat->Int) × List Se:=
 if i.op=1 then(setR r i.a i.n,[])
 else if i.op=2 then(setR r i.a (r i.b.toNat),[])
 else if i.op=10 then(setR r i.a (wrap64 (r i.b.toNat+i.n)),[])
 else if i.op=11 then(if r i.a.toNat < 0\/i.n<=r i.a.toNat then setR r i.a 0 else r,[])
 else if i.op=12 then(r,[])
 else(setR r i.a (opI (i.op - 20) (r i.b.toNat) (r i.c.toNat)),if i.op=29\/i.op=30 then[⟨3,r i.b.toNat,r i.c.toNat⟩] else[])

def putI(i:Ins):Int:=if i.op=3\/i.op=5 then 0 else if i.op=4\/i.op=6 then 1 else -1
def idxI(r:Nat->Int)(i:Ins):Int:=if i.op=5\/i.op=6 then i.n else wrap64 (r i.b.toNat+i.n)

structure St where
 at_:Nat
 r:Nat->Int
 m:Mem
 seen:List Se

def stepI(p:Prg)(s:St):St × Option (Int × Int):=
 if(p.ins s.at_).op=7 then(⟨(p.ins s.at_).n.toNat,s.r,s.m,s.seen++[⟨1,s.at_,0⟩]⟩,none)
 else if(p.ins s.at_).op=8 then
  (⟨if J1n (p.ins s.at_).c (s.r (p.ins s.at_).a.toNat) (s.r (p.ins s.at_).b.toNat)=true then(p.ins s.at_).n.toNat else s.at_+1,s.r,s.m,s.seen++[⟨1,s.at_,0⟩]⟩,none)
 else if(p.ins s.at_).op=9 then(⟨s.at_+1,s.r,s.m,s.seen++[⟨1,s.at_,0⟩]⟩,some (1,s.r (p.ins s.at_).a.toNat))
 else if 0<=putI (p.ins s.at_) then
  if idxI s.r (p.ins s.at_) < 0\/(s.m.len (p.ins s.at_).c.toNat:Int)<=idxI s.r (p.ins s.at_) then(⟨s.at_+1,s.r,s.m,s.seen++[⟨1,s.at_,0⟩]⟩,some (2,0))
  else if putI (p.ins s.at_)=1 then
   (⟨s.at_+1,s.r,setW s.m (p.ins s.at_).c.toNat (idxI s.r (p.ins s.at_)).toNat (s.r (p.ins s.at_).a.toNat),
    s.seen++[⟨1,s.at_,0⟩]++[⟨2,baseI p.log (p.ins s.at_).c.toNat+idxI s.r (p.ins s.at_),1⟩]⟩,none)
  else
   (⟨s.at_+1,setR s.r (p.ins s.at_).a (s.m.wd (p.ins s.at_).c.toNat (idxI s.r (p.ins s.at_)).toNat),s.m,
    s.seen++[⟨1,s.at_,0⟩]++[⟨2,baseI p.log (p.ins s.at_).c.toNat+idxI s.r (p.ins s.at_),0⟩]⟩,none)
 else(⟨s.at_+1,(regsI s.r (p.ins s.at_)).1,s.m,s.seen++[⟨1,s.at_,0⟩]++(regsI s.r (p.ins s.at_)).2⟩,none)

def runI(p:Prg):Nat->Nat->St->Sh
 | 0,k,s=>⟨0,0,k,s.seen,s.m⟩
 | f+1,k,s=>
  if p.cl<=s.at_ then⟨2,0,k,s.seen,s.m⟩
  else match (stepI p s).2 with
   | some e=>⟨e.1,e.2,(k:Int)+1,(stepI p s).1.seen,(stepI p s).1.m⟩
   | none=>runI p f (k+1) (stepI p s).1

def playI(p:Prg)(m:Mem)(fuel:Nat):Sh:=runI p fuel 0 ⟨0,fun _=>0,m,[]⟩

theorem Jdz{w w':World}{row:Option Nat}(hg:w.grownBy w' row){a:Addr}{v:Value}(h:w.cell? a=some v)(hne:some a.block≠row):w'.frozen? a=w.frozen? a:=
 World.frozen?_of_block (hg.block a.block (J0q h) hne)
theorem J3t(w:World)(row:Option Nat):w.grownBy w.drew row:=⟨rfl,rfl,rfl,Nat.le_refl _,fun _ _ _=>rfl⟩
theorem J0u(w:World)(row:Option Nat):w.grownBy w row:=⟨rfl,rfl,rfl,Nat.le_refl _,fun _ _ _=>rfl⟩
theorem J19(w:World)(g o:Nat)(v:Value):w.grownBy (w.setCell ⟨g,o,none⟩ v) (some g):=
 ⟨rfl,rfl,rfl,by simp[World.setCell],fun k _ hne=>Below.heap_setCell _ _ _ _ (by simpa using hne)⟩
theorem J25{a b c:World}{row:Option Nat}(h:a.grownBy b row)(k:b.grownBy c row):a.grownBy c row:=
 ⟨k.os.trans h.os,k.tape.trans h.tape,k.output.trans h.output,Nat.le_trans h.size k.size,fun i hi hne=>(k.block i (Nat.lt_of_lt_of_le hi h.size) hne).trans (h.block i hi hne)⟩
theorem More.grow{w w':World}(h:More w w')(row:Option Nat):w.grownBy w' row:=⟨Below.os h,Below.tape h,Below.output h,Below.size h,fun k hk _=>Below.block h k hk⟩

theorem J7y{w w1:World}{row:Option Nat}(h:w.grownBy w1 row)(o:Obj):w.grownBy (w1.alloc o) row:=J25 h (World.grownBy_alloc w1 o row)
theorem J0s{w w1:World}{g:Nat}(h:w.grownBy w1 (some g))(o:Nat)(v:Value):w.grownBy (w1.setCell ⟨g,o,none⟩ v) (some g):=J25 h (J19 w1 g o v)
theorem Jb1{w w1 w2:World}{row:Option Nat}(h:w.grownBy w1 row)(m:More w1 w2):w.grownBy w2 row:=J25 h (m.grow row)
theorem J17(x:Int):IntKind.i64.wrap x=wrap64 x:=by rw[IntKind.wrap_i64];unfold wrap64;omega
end
section
open Go.RowKit
set_option linter.unusedSimpArgs false
set_option linter.unusedVariables false
set_option maxRecDepth 8000
theorem Jc9(v:Int)(w:World):(convert 65 9 (.slice (some ⟨w.heap.size,0,none⟩) 1 1)).run Tryz.prog (w.alloc (.cells #[.int .u8 v] 5))=.ok (.string (txt [UInt8.ofNat v.toNat])) (w.alloc (.cells #[.int .u8 v] 5)):=by
 rw[run_convert_bytes_string _ _ _ 5 _ _ _ Tryz.underlying65 Tryz.underlying5 Tryz.underlying9];have h:=(Blk.last w #[.int .u8 v] 5).cell (j:=0) rfl;rw[run_bytesToString _ _ 1 1 [v] (by simp[go_sem,loadCells,h])]
 rfl

theorem J0n{P:Prop}(h:P):Hid P:=h
theorem J96{F:List UInt8}{k:Nat}{b:UInt8}(h:F[k]?=some b)(hk:k < (txt F).size):(txt F)[k]'hk=b:=by
 have:F[k]'(by rw[J0e]at hk;exact hk)=b:=by
  rw[List.getElem?_eq_getElem (by rw[J0e]at hk;exact hk)]at h;exact Option.some.inj h
 rw[<-this];show(F.toArray)[k]=_
 simp
def valK(d:List UInt8):Nat->Nat
 | 0=>0
 | k+1=>10*valK d k+((d.getD k 0).toNat - 48)
structure DigOk(below:Bool)(d:List UInt8)(most:Int):Prop where
 pos:1<=d.length
 most:(d.length:Int)<=most
 lead:¬(d.getD 0 0=48/\(1 < d.length\/below=true))
 digs:∀k,k < d.length->48<=(d.getD k 0).toNat/\(d.getD k 0).toNat<=57
 fits:valK d d.length<=(if below then 9223372036854775808 else 9223372036854775807)
def Jby(l:List UInt8)(below:Bool)(d:List UInt8):Prop:=(below=true/\l=45::d)\/(below=false/\l=d/\∀r,¬l=45::r)
theorem Ja9{l:List UInt8}{b b':Bool}{d d':List UInt8}(h:Jby l b d)(k:Jby l b' d'):b=b'/\d=d':=by
 rcases h with⟨rfl,rfl⟩ | ⟨rfl,rfl,n⟩<;>rcases k with⟨rfl,e⟩ | ⟨rfl,e,n'⟩
 ·exact⟨rfl,(List.cons.inj e).2⟩
 ·exact absurd rfl (n' d)
 ·exact absurd e (n _)
 ·exact⟨rfl,e⟩
def NumIs(most:Int)(l:List UInt8)(v:Int):Prop:=∃b d,Jby l b d/\DigOk b d most/\v=if b then -(valK d d.length:Int) else(valK d d.length:Int)
theorem Jj5{most:Int}{l:List UInt8}{v v':Int}(h:NumIs most l v)(k:NumIs most l v'):v=v':=by
 obtain⟨b,d,h1,_,rfl⟩:=h;obtain⟨b',d',k1,_,rfl⟩:=k;obtain⟨rfl,rfl⟩:=Ja9 h1 k1
 rfl
def J63(most:Int)(l:List UInt8)(v:Int)(ok:Bool):Prop:=(ok=true/\NumIs most l v)\/(ok=false/\∀v',¬NumIs most l v')
theorem Jny{most:Int}{l:List UInt8}{b:Bool}{d:List UInt8}(h:Jby l b d)(n:¬DigOk b d most):∀v',¬NumIs most l v':=by
 rintro v' ⟨b',d',k1,k2,_⟩;obtain⟨rfl,rfl⟩:=Ja9 h k1;exact n k2
end
section
open Go.RowKit
set_option linter.unusedSimpArgs false
set_option linter.unusedVariables false
theorem Jdh(x y:List UInt8):∀k,k<=x.length->valK (x++y) k=valK x k
 | 0,_=>rfl
 | k+1,h=>by
  rw[valK,valK,Jdh x y k (by omega)]
  congr 2
  rw[List.getD_eq_getElem?_getD,List.getD_eq_getElem?_getD,List.getElem?_append_left (by omega)]
theorem J97(x:List UInt8)(c:UInt8):valK (x++[c]) (x++[c]).length=10*valK x x.length+(c.toNat - 48):=by
 rw[List.length_append];show valK (x++[c]) (x.length+1)=_;rw[valK,Jdh x [c] x.length (Nat.le_refl _),List.getD_eq_getElem?_getD,List.getElem?_append_right (Nat.le_refl _)]
 simp
theorem Jo6(d:List UInt8)(h:1<=d.length):∃x c,d=x++[c]:=by
 refine⟨d.dropLast,d.getLast (by intro e;rw[e]at h;simp at h),?_⟩;exact(List.dropLast_concat_getLast _).symm
def Dec(d:List UInt8):Prop:=1<=d.length/\(∀b ∈ d,48<=b.toNat/\b.toNat<=57)/\(1 < d.length->¬d.getD 0 0=48)
theorem Jej(n:Nat)(h:n < 10):(UInt8.ofNat (48+n)).toNat=48+n:=by
 show(48+n) % 256=48+n;omega
theorem Jaq:∀f k,k < 10 ^ f->1<=f->Dec (dig f k)/\valK (dig f k) (dig f k).length=k/\(0 < k->¬(dig f k).getD 0 0=48)
 | 0,k,h,h1=>by omega
 | f+1,k,h,_=>by
  have hm:k % 10 < 10:=Nat.mod_lt _ (by decide);have hd:=Jej (k % 10) hm;rw[dig];by_cases c:k / 10=0
  ·rw[if_pos c,List.nil_append]
   refine⟨⟨by simp,fun b hb=>?_,fun h=>by simp at h⟩,?_,fun hk e=>?_⟩
   ·have hb:=List.mem_singleton.1 hb;rw[hb,hd];omega
   ·show 10*0+((UInt8.ofNat (48+k % 10)).toNat - 48)=k
    rw[hd];omega
   ·have e2:UInt8.ofNat (48+k % 10)=48:=by simpa using e
    have:(UInt8.ofNat (48+k % 10)).toNat=48:=by rw[e2];rfl
    rw[hd]at this;omega
  ·rw[if_neg c]
   have hf:1<=f:=by
    rcases Nat.eq_zero_or_pos f with q | q
    ·subst q;simp at h;omega
    ·exact q
   have hk:k / 10 < 10 ^ f:=by rw[Nat.pow_succ]at h;omega
   obtain⟨⟨i1,i2,i3⟩,i4,i5⟩:=Jaq f (k / 10) hk hf
   have hg:(dig f (k / 10)++[UInt8.ofNat (48+k % 10)]).getD 0 0=(dig f (k / 10)).getD 0 0:=by
    rw[List.getD_eq_getElem?_getD,List.getD_eq_getElem?_getD,List.getElem?_append_left (by omega)]
   refine⟨⟨by simp,fun b hb=>?_,fun _=>by rw[hg];exact i5 (by omega)⟩,?_,fun _=>by rw[hg];exact i5 (by omega)⟩
   ·rcases List.mem_append.1 hb with hb | hb
    ·exact i2 b hb
    ·have hb:=List.mem_singleton.1 hb;rw[hb,hd];omega
   ·rw[J97,i4,hd];omega
theorem Jap:∀(f:Nat) (d:List UInt8),d.length<=f->Dec d->dig f (valK d d.length)=d/\(¬d.getD 0 0=48->0 < valK d d.length)
 | 0,d,h,k=>by have:=k.1;omega
 | f+1,d,h,⟨k1,k2,k3⟩=>by
  obtain⟨x,c,rfl⟩:=Jo6 d k1;have hc:=k2 c (by simp);rw[J97]
  have hcc:UInt8.ofNat (48+(c.toNat - 48))=c:=by
   rw[show 48+(c.toNat - 48)=c.toNat by omega]
   simp
  by_cases hx:x.length=0
  ·obtain rfl:x=[]:=List.length_eq_zero_iff.1 hx
   refine⟨?_,fun h0=>?_⟩
   ·show dig (f+1) (10*0+(c.toNat - 48))=[c]
    rw[dig,if_pos (by omega),show 48+(10*0+(c.toNat - 48)) % 10=48+(c.toNat - 48) by omega,hcc]
    rfl
   ·have h1:¬c=48:=by simpa using h0
    have h2:¬c.toNat=48:=fun e=>h1 (UInt8.toNat_inj.1 e)
    show 0 < 10*0+(c.toNat - 48);omega
  ·have hg:(x++[c]).getD 0 0=x.getD 0 0:=by
    rw[List.getD_eq_getElem?_getD,List.getD_eq_getElem?_getD,List.getElem?_append_left (by omega)]
   have h48:¬x.getD 0 0=48:=by rw[<-hg];exact k3 (by simp;omega)
   obtain⟨i1,i2⟩:=Jap f x (by simp at h;omega) ⟨by omega,fun b hb=>k2 b (by simp[hb]),fun _=>h48⟩;have hp:=i2 h48;refine⟨?_,fun _=>by omega⟩;rw[dig,if_neg (by omega),show(10*valK x x.length+(c.toNat - 48)) / 10=valK x x.length by omega,i1,show 48+(10*valK x x.length+(c.toNat - 48)) % 10=48+(c.toNat - 48) by omega,hcc]
theorem Jcb{b:Bool}{d:List UInt8}{most:Int}(h:DigOk b d most):Dec d:=by
 refine⟨h.pos,fun x hx=>?_,fun h1 e=>h.lead ⟨e,.inl h1⟩⟩;obtain⟨i,hi,rfl⟩:=List.getElem_of_mem hx;have:=h.digs i hi;rw[List.getD_eq_getElem?_getD,List.getElem?_eq_getElem hi]at this;exact this
theorem Jkd(k:Nat)(f:Nat)(h:k < 10 ^ f)(h1:1<=f)(hf:f<=20):dig f k=dig 20 k:=by
 obtain⟨d1,v1,_⟩:=Jaq f k h h1;have hl:=J54 f k;have:=(Jap 20 (dig f k) (by omega) d1).1;rw[v1]at this;exact this.symm
theorem Jj4{most:Int}{l:List UInt8}{v:Int}(h:NumIs most l v)(hm:most<=20):l=digI v:=by
 obtain⟨b,d,hs,ok,rfl⟩:=h;have hd:=Jcb ok;have hl:d.length<=20:=by have:=ok.most;omega
 obtain⟨e,_⟩:=Jap 20 d hl hd;unfold digI;rcases hs with⟨rfl,rfl⟩ | ⟨rfl,rfl,_⟩
 ·have h48:¬d.getD 0 0=48:=fun q=>ok.lead ⟨q,.inr rfl⟩
  have hp:=(Jap 20 d hl hd).2 h48;simp only[reduceIte];rw[if_pos (by omega),show(-(valK d d.length:Int)).natAbs=valK d d.length by omega,e]
  rfl
 ·simp only[Bool.false_eq_true,reduceIte]
  rw[if_neg (by omega),show((valK l l.length:Nat):Int).natAbs=valK l l.length by omega,e]
  rfl
theorem Ji7{most:Int}{v:Int}(hb:B64 v)(f:Nat)(hf:v.natAbs < 10 ^ f)(h1:1<=f)(h20:f<=20)(hm:(f:Int)<=most):NumIs most (digI v) v:=by
 unfold B64 at hb;obtain⟨⟨d1,d2,d3⟩,hv,h0⟩:=Jaq f v.natAbs hf h1;have hlen:=J54 f v.natAbs;have e20:=Jkd v.natAbs f hf h1 h20;rw[e20]at d1 d2 d3 hv h0 hlen
 have digs:∀k,k < (dig 20 v.natAbs).length->48<=((dig 20 v.natAbs).getD k 0).toNat/\((dig 20 v.natAbs).getD k 0).toNat<=57:=fun k hk=>by
  rw[List.getD_eq_getElem?_getD,List.getElem?_eq_getElem hk];exact d2 _ (List.getElem_mem hk)
 unfold digI;by_cases n:v < 0
 ·rw[if_pos n]
  refine⟨true,dig 20 v.natAbs,.inl ⟨rfl,rfl⟩,⟨d1,by omega,fun q=>h0 (by omega) q.1,digs,?_⟩,?_⟩
  ·simp only[reduceIte];rw[hv];omega
  ·simp only[reduceIte];rw[hv];omega
 ·rw[if_neg n,List.nil_append]
  refine⟨false,dig 20 v.natAbs,.inr ⟨rfl,rfl,fun r e=>?_⟩,⟨d1,by omega,fun q=>?_,digs,?_⟩,?_⟩
  ·have:=d2 45 (by rw[e];simp)
   exact absurd this.1 (by decide)
  ·rcases q.2 with c | c
   ·exact d3 c q.1
   ·cases c
  ·simp only[Bool.false_eq_true,reduceIte];rw[hv];omega
  ·simp only[Bool.false_eq_true,reduceIte];rw[hv];omega
end
section
open Go.RowKit
set_option linter.unusedSimpArgs false
set_option linter.unusedVariables false
set_option maxRecDepth 8000
def J09(b:UInt8):List UInt8->List (List UInt8)
 | []=>[[]]
 | x::l=>if x=b then[]::J09 b l else match J09 b l with | p::r=>(x::p)::r | []=>[[x]]
theorem Jaa(b:UInt8):∀(n:Nat) (x:List UInt8),(∀j,j < n->¬x[j]?=some b)->x[n]?=some b->J09 b x=x.take n::J09 b (x.drop (n+1))
 | _,[],_,h=>by simp at h
 | 0,y::l,_,h=>by
  have:y=b:=by simpa using h
  simp[J09,this]
 | n+1,y::l,hn,h=>by
  have h0:¬y=b:=fun e=>hn 0 (by omega) (by simp[e])
  have ih:=Jaa b n l (fun j hj=>by have:=hn (j+1) (by omega);simpa using this) (by simpa using h);rw[J09,if_neg h0,ih]
  simp
theorem J74(b:UInt8):∀(x:List UInt8),(∀j,j < x.length->¬x[j]?=some b)->J09 b x=[x]
 | [],_=>rfl
 | y::l,hn=>by
  have h0:¬y=b:=fun e=>hn 0 (by simp) (by simp[e])
  have ih:=J74 b l (fun j hj=>by have:=hn (j+1) (by simp;omega);simpa using this);rw[J09,if_neg h0,ih]
theorem J2i(b:UInt8):∀x:List UInt8,1<=(J09 b x).length/\(J09 b x).length<=x.length+1
 | []=>by simp[J09]
 | y::l=>by
  have:=J2i b l;rw[J09]
  split
  ·simp;omega
  ·cases h:J09 b l with
   | nil=>rw[h]at this;simp at this
   | cons p r=>rw[h]at this;simp at this |-;omega
def strC(L:List (List UInt8)):List Value:=L.map fun s=>.string (txt s)
theorem Jm7(L L':List (List UInt8)):strC (L++L')=strC L++strC L':=by simp[strC]
theorem Joz:(Tryz.prog.info? 9).map (fun i=>(i.zero,i.size,i.bytes))=some (some (.string ⟨#[]⟩),1,16):=by kernel_rfl
end
section
open Go.RowKit
set_option linter.unusedSimpArgs false
set_option linter.unusedVariables false
theorem J73(b:UInt8)(y:List UInt8):∀x:List UInt8,¬b ∈ x->J09 b (x++b::y)=x::J09 b y
 | [],_=>by simp[J09]
 | c::x,h=>by
  have h0:¬c=b:=fun e=>h (by simp[e])
  have ih:=J73 b y x (fun e=>h (by simp[e]));rw[List.cons_append,J09,if_neg h0,ih]
theorem J4b(b:UInt8)(x:List UInt8)(h:¬b ∈ x):J09 b x=[x]:=
 J74 b x (fun j hj e=>h (List.mem_of_getElem? e))
end
section
open Go.RowKit
set_option linter.unusedVariables false
def prgOf(rs:List (Int × Bool))(cs:List Ins):Prg:=⟨rs.length,fun k=>(rs.getD k (0,false)).1,fun k=>(rs.getD k (0,false)).2,cs.length,fun k=>cs.getD k ⟨0,0,0,0,0⟩⟩
end
section
open Go.RowKit
set_option linter.unusedSimpArgs false
set_option linter.unusedVariables false
def rgnL:List UInt8:=[114,101,103,105,111,110]
def capB(c:UInt8):Bool:=decide (65<=c.toNat/\c.toNat<=90)
def writL(tl:UInt8->Int):List UInt8->List UInt8
  | []=>[]
  | c::F=>(if capB c then digI (tl c) else[c])++writL tl F
theorem Jdm(tl:UInt8->Int):∀F G,writL tl (F++G)=writL tl F++writL tl G
  | [],_=>rfl
  | c::F,G=>by rw[List.cons_append,writL,writL,Jdm tl F G,List.append_assoc]
theorem J3i(tl:UInt8->Int):∀F,(writL tl F).length<=21*F.length
  | []=>Nat.le_refl _
  | c::F=>by
    have:=J3i tl F;have:=J0m (tl c);rw[writL,List.length_append]
    split<;>simp<;>omega
theorem Jhv(tl:UInt8->Int)(F:List UInt8)(k:Nat)(c:UInt8)(h:F[k]?=some c):writL tl (F.take (k+1))=writL tl (F.take k)++(if capB c then digI (tl c) else[c]):=by
  rw[List.take_add_one,h,Jdm];simp[writL]

theorem J5l:∀(f u:Nat),u < 10 ^ (f+1)->Lib.decDigits u=dig (f+1) u
  | 0,u,h=>by
    rw[Lib.decDigits,dif_pos (by omega),dig,if_pos (by omega),List.nil_append,Nat.mod_eq_of_lt (by omega)]
  | f+1,u,h=>by
    rw[Lib.decDigits];by_cases c:u < 10
    · rw[dif_pos c,dig,if_pos (by omega),List.nil_append,Nat.mod_eq_of_lt c]
    · rw[dif_neg c,dig,if_neg (by omega),J5l f (u / 10) (by
        have:10 ^ (f+1+1)=10 ^ (f+1)*10:=Nat.pow_succ ..;omega)]
theorem Jfy{n:Int}(h:B64 n):Lib.itoa n=digI n:=by
  unfold B64 at h;unfold Lib.itoa digI;have e:(10:Nat) ^ (19+1)=100000000000000000000:=by decide
  by_cases c:n < 0
  · rw[if_pos c,if_pos c,J5l 19 _ (by rw[e];omega)]
    rfl
  · rw[if_neg c,if_neg c,J5l 19 _ (by rw[e];omega),List.nil_append]
    congr 1
    omega

abbrev Kd:=List UInt8 × Int × Int × List UInt8
def rN:List UInt8:=[32,114,65,32,114,66,32,78]
def rC:List UInt8:=[32,114,65,32,114,66,32,114,67]
def gN:List UInt8:=[32,114,65,32,103,67,32,114,66,32,78]
def kN:List UInt8:=[32,114,65,32,103,67,32,78]
def kindsT:List Kd:=
  [([115,101,116],1,0,[32,114,65,32,78]),([109,111,118,101],2,0,[32,114,65,32,114,66]),([112,108,117,115],10,0,rN),([108,111,97,100],3,0,gN),([112,117,116],4,0,gN),
   ([108,111,97,100,107],5,0,kN),([112,117,116,107],6,0,kN),([106,117,109,112],7,0,[32,78]),([115,97,109,101],8,1,rN),([111,116,104,101,114],8,2,rN),
   ([108,101,115,115],8,3,rN),([109,111,115,116],8,4,rN),([104,97,108,116],9,0,[32,114,65]),([109,97,115,107],11,0,[32,114,65,32,78]),([102,101,110,99,101],12,0,[]),
   ([97,100,100],21,0,rC),([115,117,98],22,0,rC),([109,117,108],23,0,rC),([97,110,100],24,0,rC),([111,114],25,0,rC),([120,111,114],26,0,rC),([115,104,108],27,0,rC),
   ([115,104,114],28,0,rC),([100,105,118],29,0,rC),([109,111,100],30,0,rC)]
def J1s(k:Kd):List Value:=[.string (txt k.1),V k.2.1,V k.2.2.1,.string (txt k.2.2.2)]
def kindsC:List Value:=kindsT.flatMap J1s
theorem J21:kindsT.length=25:=rfl
theorem Jb6:kindsC.length=100:=rfl
theorem Jiv(k:Nat)(x:Kd)(h:kindsT[k]?=some x):kindsC[k*4]?=some (.string (txt x.1))/\kindsC[k*4+1]?=some (V x.2.1)/\kindsC[k*4+2]?=some (V x.2.2.1)/\kindsC[k*4+3]?=some (.string (txt x.2.2.2)):=by
  have hk:k < 25:=by
    have:=(List.getElem?_eq_some_iff.1 h).1;simpa[J21]using this
  have key:∀(L:List Kd) (k:Nat),L[k]?=some x->(L.flatMap J1s)[k*4]?=some (.string (txt x.1))/\(L.flatMap J1s)[k*4+1]?=some (V x.2.1)/\(L.flatMap J1s)[k*4+2]?=some (V x.2.2.1)/\(L.flatMap J1s)[k*4+3]?=some (.string (txt x.2.2.2)):=by
    intro L
    induction L with
    | nil=>intro k h;simp at h
    | cons y L ih=>
      intro k h;rw[List.flatMap_cons];cases k with
      | zero=>simp at h;subst h;simp[J1s]
      | succ k=>
        have:=ih k (by simpa using h)
        have e:∀j,(J1s y++L.flatMap J1s)[(k+1)*4+j]?=(L.flatMap J1s)[k*4+j]?:=fun j=>by
          rw[List.getElem?_append_right (by show 4<=_;omega)]
          congr 1
          show(k+1)*4+j - 4=_;omega
        exact⟨(e 0).trans this.1,(e 1).trans this.2.1,(e 2).trans this.2.2.1,(e 3).trans this.2.2.2⟩
  exact key kindsT k h
def kindK(i:Ins)(x:Kd):Prop:=x.2.1=i.op/\(x.2.2.1=0\/x.2.2.1=i.c)
def tellI(i:Ins)(c:UInt8):Int:=if c=65 then i.a else if c=66 then i.b else if c=67 then i.c else i.n
theorem J9w{k:Nat}{x:Kd}(h:kindsT[k]?=some x):x ∈ kindsT:=List.mem_of_getElem? h
theorem Jiu{i:Ins}{x:Kd}(h:x ∈ kindsT)(f:kindK i x):x.1++writL (tellI i) x.2.2.2++[10]=lineL i:=by
  obtain⟨op,a,b,c,n⟩:=i;obtain⟨f1,f2⟩:=f;have f1:x.2.1=op:=f1;have f2:x.2.2.1=0\/x.2.2.1=c:=f2;subst f1;simp only[kindsT,List.mem_cons,List.not_mem_nil,or_false]at h;rcases h with rfl | rfl | rfl | rfl | rfl | rfl | rfl | rfl | rfl | rfl | rfl | rfl | rfl | rfl | rfl | rfl | rfl | rfl | rfl | rfl | rfl | rfl | rfl | rfl | rfl
  all_goals first
    | (have hc:=f2.resolve_left (by decide);have hc':=hc.symm;simp only at hc';subst hc';simp[lineL,wordL,folL,J70,Jcz,writL,capB,tellI,rN,rC,gN,kN])
    | simp[lineL,wordL,folL,J70,Jcz,writL,capB,tellI,rN,rC,gN,kN]
theorem Jl6{i:Ins}(h:HasW i.op i.c)(h0:¬i.op=0):∃x ∈ kindsT,kindK i x:=by
  obtain⟨op,a,b,c,n⟩:=i;have h:HasW op c:=h;have h0:¬op=0:=h0;have key:∀(k:Nat) (x:Kd),kindsT[k]?=some x->op=x.2.1->(x.2.2.1=0\/x.2.2.1=c)->∃x ∈ kindsT,kindK ⟨op,a,b,c,n⟩ x:=fun k x hk e1 e2=>⟨x,J9w hk,e1.symm,e2⟩
  unfold HasW at h;by_cases e:op=1;· exact key 0 _ rfl e (.inl rfl)
  by_cases e:op=2;· exact key 1 _ rfl e (.inl rfl)
  by_cases e:op=10;· exact key 2 _ rfl e (.inl rfl)
  by_cases e:op=3;· exact key 3 _ rfl e (.inl rfl)
  by_cases e:op=4;· exact key 4 _ rfl e (.inl rfl)
  by_cases e:op=5;· exact key 5 _ rfl e (.inl rfl)
  by_cases e:op=6;· exact key 6 _ rfl e (.inl rfl)
  by_cases e:op=7;· exact key 7 _ rfl e (.inl rfl)
  by_cases e:op=8
  · by_cases d:c=1;· exact key 8 _ rfl e (.inr d.symm)
    by_cases d:c=2;· exact key 9 _ rfl e (.inr d.symm)
    by_cases d:c=3;· exact key 10 _ rfl e (.inr d.symm)
    by_cases d:c=4;· exact key 11 _ rfl e (.inr d.symm)
    omega
  by_cases e:op=9;· exact key 12 _ rfl e (.inl rfl)
  by_cases e:op=11;· exact key 13 _ rfl e (.inl rfl)
  by_cases e:op=12;· exact key 14 _ rfl e (.inl rfl)
  by_cases e:op=21;· exact key 15 _ rfl e (.inl rfl)
  by_cases e:op=22;· exact key 16 _ rfl e (.inl rfl)
  by_cases e:op=23;· exact key 17 _ rfl e (.inl rfl)
  by_cases e:op=24;· exact key 18 _ rfl e (.inl rfl)
  by_cases e:op=25;· exact key 19 _ rfl e (.inl rfl)
  by_cases e:op=26;· exact key 20 _ rfl e (.inl rfl)
  by_cases e:op=27;· exact key 21 _ rfl e (.inl rfl)
  by_cases e:op=28;· exact key 22 _ rfl e (.inl rfl)
  by_cases e:op=29;· exact key 23 _ rfl e (.inl rfl)
  by_cases e:op=30;· exact key 24 _ rfl e (.inl rfl)
  omega
theorem Jeb{x:Kd}(h:x ∈ kindsT):(∀c ∈ x.2.2.2,c.toNat < 128/\(capB c=true->c=65\/c=66\/c=67\/c=78))/\x.2.2.2.length<=11:=by
  have:∀x ∈ kindsT,(∀c ∈ x.2.2.2,c.toNat < 128/\(capB c=true->c=65\/c=66\/c=67\/c=78))/\x.2.2.2.length<=11:=by decide
  exact this x h
def regF(sec:Bool):List UInt8:=if sec then[32,76,32,115,101,99,114,101,116] else[32,76,32,112,117,98,108,105,99]
theorem Jg8(lg:Int)(sec:Bool):rgnL++writL (fun _=>lg) (regF sec)++[10]=regL lg sec:=by
  cases sec<;>simp[rgnL,regF,regL,writL,capB]
theorem J5t(sec:Bool):(∀c ∈ regF sec,c.toNat < 128)/\(regF sec).length=9:=by cases sec<;>decide
end
section
open Go.RowKit
set_option linter.unusedSimpArgs false
set_option linter.unusedVariables false
set_option maxRecDepth 8000
structure Lai(w:World):Prop where
 kinds:∃t fz,w.heap[1]?=some (.cells kindsC.toArray t fz)
 pow:∃t fz,w.heap[3]?=some (.cells (Lib.pow10Tab.map fun z=>Value.int .u64 z).toArray t fz)
theorem J1r{w w':World}(m:More w w'){g:Nat}{o:Obj}(h:w.heap[g]?=some o):w'.heap[g]?=some o:=(m.block g (Array.getElem?_eq_some_iff.1 h).1).trans h
theorem Lai.more{w w':World}(h:Lai w)(m:More w w'):Lai w':=by
 obtain⟨⟨t,fz,a⟩,⟨t',fz',b⟩⟩:=h;exact⟨⟨t,fz,J1r m a⟩,⟨t',fz',J1r m b⟩⟩

theorem Jaj(c:UInt8)(w:World):Calls Tryz.prog 112 #[.int .i32 c.toNat] w fun e w'=>e=.returned (.bool (capB c))/\w'=w:=by
 suffices hP:∀P:Ending->World->Prop,P (.returned (.bool (capB c))) w->Calls Tryz.prog 112 #[.int .i32 c.toNat] w P from hP _ ⟨rfl,rfl⟩
 intro P hP;obtain⟨b,Hb⟩:∃b,Hid (capB c=b):=⟨_,rfl⟩;rw[Hb.out]at hP;have HP:Hid (P (.returned (.bool b)) w):=hP;have hb:b=decide (65<=c.toNat/\c.toNat<=90):=Hb.out.symm;obtain⟨n,Hn⟩:∃n:Nat,Hid (c.toNat=n):=⟨_,rfl⟩;rw[Hn.out]at hb |-;clear hP Hn Hb;by_cases h1:65<=n
 ·by_cases h2:n<=90
  ·have e1:(65:Int)<=n:=by omega
   have e2:(n:Int)<=90:=by omega
   have hb1:b=true:=by rw[hb];simp[h1,h2]
   clear hb;subst hb1;clear h1 h2;go_enter Tryz.func112,Tryz.ntmps112;go_wp2;exact HP.out
  ·have e1:(65:Int)<=n:=by omega
   have e2:¬(n:Int)<=90:=by omega
   have hb1:b=false:=by rw[hb];simp[h1,h2]
   clear hb;subst hb1;clear h1 h2;go_enter Tryz.func112,Tryz.ntmps112;go_wp2;exact HP.out
 ·have e1:¬(65:Int)<=n:=by omega
  have hb1:b=false:=by rw[hb];simp[h1]
  clear hb;subst hb1;clear h1;go_enter Tryz.func112,Tryz.ntmps112;go_wp2;exact HP.out

theorem J3e(n:Int)(hn:B64 n)(w:World)(h:Lai w):Calls Tryz.prog 113 #[V n,V 10] w fun e w'=>e=.returned (.string (txt (digI n)))/\More w w':=by
 obtain⟨t,fz,hp⟩:=h.pow;refine(Any.strconv_FormatInt_10 Tryz.laysM173 n hn.1 hn.2 w ?_).mono ?_
 ·show World.var? _ _ _=_
  unfold World.var?;rw[show Tryz.prog.globalNamed _=some 3 by kernel_rfl];show(match w.heap[3]? with | some (.cells cs _ _)=>some cs | _=>none)=_;rw[hp]
 ·rintro e w' ⟨rfl,k,os,rfl⟩
  refine⟨by rw[Jfy hn],?_⟩;exact⟨rfl,rfl,rfl,by simp[Sort.grow],fun i hi=>by simp[Sort.grow,Array.getElem?_append,hi]⟩

theorem Jf1(lg:Int)(sec:Bool)(b:Nat)(c:UInt8)(w:World)(h:Blk w b #[V lg,.bool sec] 76):
  Calls Tryz.prog 80 #[.int .i32 c.toNat,.pointer (some ⟨b,0,none⟩)] w fun e w'=>e=.returned (V lg)/\w'=w:=by
 have c0:w.cell? ⟨b,0,none⟩=some (V lg):=h.cell rfl;clear h;go_enter Tryz.func80,Tryz.ntmps80;go_wp2;go_ret;exact⟨rfl,rfl⟩
theorem Jf0(i:Ins)(b:Nat)(c:UInt8)(w:World)(h:Blk w b #[V i.op,V i.a,V i.b,V i.c,V i.n] 41):
  Calls Tryz.prog 82 #[.int .i32 c.toNat,.pointer (some ⟨b,0,none⟩)] w fun e w'=>e=.returned (V (tellI i c))/\w'=w:=by
 suffices hP:∀P:Ending->World->Prop,P (.returned (V (tellI i c))) w->Calls Tryz.prog 82 #[.int .i32 c.toNat,.pointer (some ⟨b,0,none⟩)] w P from hP _ ⟨rfl,rfl⟩
 intro P hP;have c1:w.cell? ⟨b,1,none⟩=some (V i.a):=h.cell rfl;have c2:w.cell? ⟨b,2,none⟩=some (V i.b):=h.cell rfl;have c3:w.cell? ⟨b,3,none⟩=some (V i.c):=h.cell rfl;have c4:w.cell? ⟨b,4,none⟩=some (V i.n):=h.cell rfl;obtain⟨op,a,b',c',n⟩:=i;simp only at c1 c2 c3 c4;clear h;have hne:∀k:UInt8,¬c=k->¬(c.toNat:Int)=k.toNat:=fun k h e=>h (UInt8.toNat_inj.1 (by omega))
 by_cases e1:c=65
 ·subst e1
  have HP:Hid (P (.returned (V a)) w):=hP;clear hP hne;go_enter Tryz.func82,Tryz.ntmps82;go_wp2;exact HP.out
 by_cases e2:c=66
 ·subst e2
  have HP:Hid (P (.returned (V b')) w):=hP;clear hP hne;go_enter Tryz.func82,Tryz.ntmps82;go_wp2;exact HP.out
 by_cases e3:c=67
 ·subst e3
  have HP:Hid (P (.returned (V c')) w):=hP;clear hP hne;go_enter Tryz.func82,Tryz.ntmps82;go_wp2;exact HP.out
 ·have f1:¬(c.toNat:Int)=65:=hne 65 e1
  have f2:¬(c.toNat:Int)=66:=hne 66 e2;have f3:¬(c.toNat:Int)=67:=hne 67 e3
  have HP:Hid (P (.returned (V n)) w):=by
   unfold tellI at hP;rw[if_neg e1,if_neg e2,if_neg e3]at hP;exact hP
  clear hP hne e1 e2 e3;obtain⟨m,Hm⟩:∃m:Nat,Hid (c.toNat=m):=⟨_,rfl⟩;rw[Hm.out]at f1 f2 f3 |-;go_enter Tryz.func82,Tryz.ntmps82;go_wp2;exact HP.out
theorem Jcx{w w':World}{B:Nat}{e:TypeId}{v:Value}{n:Nat}{xs:List Value}(h:w.ownsRowF B e 1 v n xs)(m:More w w'):w'.ownsRowF B e 1 v n xs:=by
 refine⟨h.1,?_⟩;rcases h.2 with a | ⟨g,cap,cur,fz,hv,hb,hg,r⟩
 ·exact .inl a
 ·exact .inr ⟨g,cap,cur,fz,hv,hb,J1r m hg,r⟩
theorem J42{w w':World}{B b:Nat}{l:List UInt8}(h:Bld w B b l)(m:More w w'):Bld w' B b l:=by
 rcases h with⟨hB,v,hb,ho,hn⟩ | ⟨hB,v,hb,ho,hn⟩
 ·exact .inl ⟨hB,v,J1r m hb,Jcx ho m,hn⟩
 ·exact .inr ⟨hB,v,J1r m hb,Jcx ho m,hn⟩
theorem J02{P:Prop}(h:P):Hid P:=h
theorem Jht{F:List UInt8}{k:Nat}{c:UInt8}(h:F[k]?=some c)(hc:c.toNat < 128)(hk:k < (txt F).size):Utf8.decode (txt F) k=(c.toNat,1):=by
 have e:(txt F)[k]'hk=c:=J96 h hk;have:=decode_ascii (txt F) k hk (by rw[e];exact hc);rw[this,e]

set_option maxRecDepth 1000000 in
theorem J5k(F:List UInt8)(hF:∀c ∈ F,c.toNat < 128)(hl:F.length<=1000)(tl:UInt8->Int)(htl:∀c,B64 (tl c))(fn:Nat)(cp:Value)(w:World)(hw:Lai w)
  (hent:∀args w,(callFunc fn args).run Tryz.prog w=.ok (.enter fn args) w) (hfn:∀c w1,More w w1->Calls Tryz.prog fn #[.int .i32 c.toNat,cp] w1 fun e w'=>e=.returned (V (tl c))/\w'=w1):
  Calls Tryz.prog 79 #[.string (txt F),.func (.func fn) #[] #[cp]] w fun e w'=>e=.returned (.string (txt (writL tl F)))/\More w w':=by
 suffices hP:∀P:Ending->World->Prop,(∀w',More w w'->P (.returned (.string (txt (writL tl F)))) w')->Calls Tryz.prog 79 #[.string (txt F),.func (.func fn) #[] #[cp]] w P from hP _ (fun w' m=>⟨rfl,m⟩)
 intro P hP0;have HP:Hid (∀w',More w w'->P (.returned (.string (txt (writL tl F)))) w'):=hP0;have HL:Hid (Lai w):=hw;have Hfn:Hid (∀c w1,More w w1->Calls Tryz.prog fn #[.int .i32 c.toNat,cp] w1 fun e w'=>e=.returned (V (tl c))/\w'=w1):=hfn;have HF:Hid (∀c ∈ F,c.toNat < 128):=hF;have Hsz:Hid ((txt F).size=F.length):=J0e F;have Htl:Hid (∀c,B64 (tl c)):=htl;clear hP0 hw hfn hF htl;have Hdec:Hid (∀k c,F[k]?=some c->Utf8.decode (txt F) k=(c.toNat,1)):=fun k c h=>Jht h (HF.out c (List.mem_of_getElem? h)) (by rw[Hsz.out];exact(List.getElem?_eq_some_iff.1 h).1)
 obtain⟨ss,Hss⟩:∃x,Hid (txt F=x):=⟨_,rfl⟩;rw[Hss.out]at Hsz Hdec |-;go_enter Tryz.func79,Tryz.ntmps79;go_wp2
 go_loopw [] (fun wr=>∃pos:Nat,pos<=F.length/\Bld wr w.heap.size w.heap.size (writL tl (F.take pos))/\wr.heap[w.heap.size+1]?=some (.stringIter ss pos)/\More w wr) (fun wr=>ss.size - wr.iterPos (w.heap.size+1))
 case atStart=>
  refine⟨0,Nat.zero_le _,(J3r w).alloc _,?_,((Below.refl _ w).alloc (Nat.le_refl _) _).alloc (by simp) _⟩;have:=World.iter_heap (w.alloc (.cells #[.pointer none,.slice none 0 0] 67)) ss 0;simpa using this
 case round=>
  obtain⟨pos,hpl,hI,hit,hbw⟩:=hrel;have hsz:w.heap.size+1 < wr.heap.size:=(Array.getElem?_eq_some_iff.1 hit).1;by_cases hp:pos < F.length
  ·obtain⟨c,hc⟩:∃c,F[pos]?=some c:=⟨F[pos],List.getElem?_eq_getElem hp⟩
   have hd:=Hdec.out pos c hc
   have hnx:∀ty,(Instr.next (.pointer (some ⟨w.heap.size+1,0,none⟩)) true ty).run Tryz.prog wr=.ok (.tuple #[.bool true,V pos,.int .i32 c.toNat]) (wr.iterAt (w.heap.size+1) ss (pos+1)):=fun ty=>by
    rw[Lib.run_next_any_at wr (w.heap.size+1) ss pos ty hit (by rw[Hsz.out];exact hp),hd]
   obtain⟨W,HW⟩:∃w_:World,Hid (w_=wr.iterAt (w.heap.size+1) ss (pos+1)):=⟨_,rfl⟩;have HI:Hid (Bld W w.heap.size w.heap.size (writL tl (F.take pos))):=HW.out▸Lib.IsBuilderF.iterAt hI hit (pos+1);have Hit:Hid (W.heap[w.heap.size+1]?=some (.stringIter ss (pos+1))):=HW.out▸Lib.iterAt_heap wr (w.heap.size+1) ss pos (pos+1) hit;have Hm:Hid (More w W):=HW.out▸Lib.below_iterAt hbw (k:=w.heap.size+1) (by omega) ss (pos+1)
   have Hwl:Hid ((writL tl (F.take pos)).length<=21000):=by
    have h1:=J3i tl (F.take pos);have h2:(F.take pos).length<=F.length:=by simp;omega
    show _<=_;omega
   have Hnext:Hid (writL tl (F.take (pos+1))=writL tl (F.take pos)++(if capB c then digI (tl c) else[c])):=Jhv tl F pos c hc;have Hip:Hid (wr.iterPos (w.heap.size+1)=pos):=by show _=_;simp[World.iterPos,hit]
   have Hc:Hid (c.toNat < 128):=HF.out c (List.mem_of_getElem? hc);rw[<-HW.out]at hnx;have Hit0:Hid (wr.heap[w.heap.size+1]?=some (.stringIter ss pos)):=hit;clear hI hit hbw hd hsz HW;have CC:Hid (Calls Tryz.prog 112 #[.int .i32 c.toNat] W fun e w'=>e=.returned (.bool (capB c))/\w'=W):=Jaj c W;obtain⟨cn,Hcn⟩:∃x:Nat,Hid (c.toNat=x):=⟨_,rfl⟩;obtain⟨cb,Hcb⟩:∃x,Hid (capB c=x):=⟨_,rfl⟩;have Ht:Hid (∀w1,More w w1->Calls Tryz.prog fn #[.int .i32 cn,cp] w1 fun e w'=>e=.returned (V (tl c))/\w'=w1):=fun w1 m=>by rw[<-Hcn.out];exact Hfn.out c w1 m
   have Hw1:Hid (∀w1,Bld w1 w.heap.size w.heap.size (writL tl (F.take pos))->w.heap.size<=w1.heap.size->Calls Tryz.prog 114 #[.pointer (some ⟨w.heap.size,0,none⟩),.int .i32 cn] w1 fun e w'=>e=.returned (.tuple #[V 1,.nilIface])/\Bld w' w.heap.size w.heap.size (writL tl (F.take pos)++[c])/\Below w.heap.size w1 w'/\Oth w.heap.size w1 w'):=fun w1 h1 h2=>by
    rw[<-Hcn.out];exact Jhm w.heap.size w.heap.size _ c Hc.out w1 h1 (by have:=Hwl.out;omega) h2
   have Hw2:Hid (∀w1,Bld w1 w.heap.size w.heap.size (writL tl (F.take pos))->w.heap.size<=w1.heap.size->Calls Tryz.prog 20 #[.pointer (some ⟨w.heap.size,0,none⟩),.string (txt (digI (tl c)))] w1 fun e w'=>e=.returned (.tuple #[V (digI (tl c)).length,.nilIface])/\Bld w' w.heap.size w.heap.size (writL tl (F.take pos)++digI (tl c))/\Below w.heap.size w1 w'/\Oth w.heap.size w1 w'):=fun w1 h1 h2=>
    J1d w.heap.size w.heap.size _ _ w1 h1 (by have:=Hwl.out;have:=J0m (tl c);omega) h2
   have Hf:Hid (∀w1,Lai w1->Calls Tryz.prog 113 #[V (tl c),V 10] w1 fun e w'=>e=.returned (.string (txt (digI (tl c))))/\More w1 w'):=fun w1 h=>J3e (tl c) (Htl.out c) w1 h
   obtain⟨tv,Htv⟩:∃x,Hid (tl c=x):=⟨_,rfl⟩;obtain⟨dv,Hdv⟩:∃x,Hid (digI tv=x):=⟨_,rfl⟩;rw[Hcn.out]at hnx CC;rw[Hcb.out]at CC Hnext;rw[Htv.out]at Ht Hw2 Hf Hnext;rw[Hdv.out]at Hw2 Hf Hnext
   have Hend:Hid (∀w1,Bld w1 w.heap.size w.heap.size (writL tl (F.take (pos+1)))->w1.heap[w.heap.size+1]?=some (.stringIter ss (pos+1))->More w w1->(∃p,p<=F.length/\Bld w1 w.heap.size w.heap.size (writL tl (F.take p))/\w1.heap[w.heap.size+1]?=some (.stringIter ss p)/\More w w1)/\ss.size - w1.iterPos (w.heap.size+1) < ss.size - wr.iterPos (w.heap.size+1)):=fun w1 a b m=>by
    refine⟨⟨pos+1,hp,a,b,m⟩,?_⟩;have:w1.iterPos (w.heap.size+1)=pos+1:=by simp[World.iterPos,b]
    rw[this,Hip.out,Hsz.out];omega
   clear Hcn Htv Hdv hc hp hpl;go_wp2_with (fail)
   refine CC.out.mono ?_;rintro e w' ⟨rfl,rfl⟩;clear CC hnx;cases cb with
   | false=>
    rw[if_neg (by decide)]at Hnext;clear Ht Hw2 Hf;go_wp2_with (fail)
    refine(Hw1.out _ HI.out (More.size Hm.out)).mono ?_;rintro e w1 ⟨rfl,h1,b1,k1⟩;have HE:=J02 (Hend.out w1 (by rw[Hnext.out];exact h1) (k1.iter Hit.out (by omega)) (Below.trans Hm.out b1));clear h1 b1 k1 Hend Hw1;go_wp2
    go_roundw
    case rel=>exact HE.out.1
    case measure=>exact HE.out.2
   | true=>
    rw[if_pos rfl]at Hnext;clear Hw1;go_wp2_with (go_at_fn fn;refine(Ht.out _ Hm.out).mono ?_;rintro e w1 ⟨rfl,rfl⟩;refine Hid.out ?_)
    refine Lib.hid ?_;go_wp2_with (fail)
    refine(Hf.out _ (HL.out.more Hm.out)).mono ?_;rintro e w1 ⟨rfl,m1⟩;have HI1:Hid (Bld w1 w.heap.size w.heap.size (writL tl (F.take pos))):=J42 HI.out m1;have Hit1:Hid (w1.heap[w.heap.size+1]?=some (.stringIter ss (pos+1))):=J1r m1 Hit.out;have Hm1:Hid (More w w1):=Hm.out.trans m1;clear m1 Hf Ht;go_wp2_with (fail)
    refine(Hw2.out _ HI1.out (More.size Hm1.out)).mono ?_;rintro e w2 ⟨rfl,h1,b1,k1⟩;have HE:=J02 (Hend.out w2 (by rw[Hnext.out];exact h1) (k1.iter Hit1.out (by omega)) (Below.trans Hm1.out b1));clear h1 b1 k1 Hend Hw2;go_wp2
    go_roundw
    case rel=>exact HE.out.1
    case measure=>exact HE.out.2
  ·have hnx:∀ty,(Instr.next (.pointer (some ⟨w.heap.size+1,0,none⟩)) true ty).run Tryz.prog wr=.ok (.tuple #[.bool false]) wr:=fun ty=>Lib.run_next_end_at wr (w.heap.size+1) ss pos ty hit (by rw[Hsz.out];exact hp)
   have Hs:Hid (Calls Tryz.prog 22 #[.pointer (some ⟨w.heap.size,0,none⟩)] wr fun e w'=>e=.returned (.string (txt (writL tl F)))/\Below w.heap.size wr w'):=by
    have e:F.take pos=F:=List.take_of_length_le (by omega);rw[e]at hI;exact(J29 w.heap.size w.heap.size _ wr hI (by omega)).mono (fun e w' h=>⟨h.1,h.2.2.1⟩)
   have Hm:Hid (More w wr):=hbw;clear hI hit hbw hsz hp hpl;obtain⟨os,Hos⟩:∃x,Hid (txt (writL tl F)=x):=⟨_,rfl⟩;rw[Hos.out]at Hs HP;go_wp2_with (fail)
   refine Hs.out.mono ?_;rintro e w1 ⟨rfl,b1⟩;have HE:Hid (P (.returned (.string os)) w1):=HP.out w1 (Below.trans Hm.out b1);clear b1 HP;go_wp2;exact HE.out
end
section
open Go
section
variable {P:Program} {ops:Array Oper} {Q:Exit->Act->World->Prop} {md:Region.Mode} {S:World->Prop}

def ordB(md:Region.Mode)(ops:Array Oper):List (Nat × Bool)->Array Bool->Bool
 | [],listed=>(Region.ready md ops listed).isEmpty
 | (i,t)::rest,listed=>
  (ops[i]?).isSome&&(if t then Region.free md ops listed i&&(Region.ready md ops listed).contains i else Region.ready md ops listed==[i])&&
   ordB md ops rest (listed.setIfInBounds i true)

def J2c(P:Program)(ops:Array Oper)(S:World->Prop)(o:Oper)(a:Act)(w:World)(K:Act->World->Prop):Prop:=
 if Region.wanted o (yielded ops a.tmps)=true then ∃v,(∀i:{ w' // S w' },(execOp a.eval o).run P i.val=.ok (.value v) i.val)/\K (a.put o.dst v) w
 else K (a.put o.dst undef) w

def J23(P:Program)(ops:Array Oper)(Q:Exit->Act->World->Prop)(o:Oper)(a:Act)(w:World)(K:Act->World->Prop):Prop:=
 if Region.wanted o (yielded ops a.tmps)=true then Oper.wp P o a w K Q else K (a.put o.dst undef) w

def wpOrd(P:Program)(ops:Array Oper)(Q:Exit->Act->World->Prop)(S:World->Prop):List (Nat × Bool)->Act->World->Prop
 | [],a,w=>Q .normal a w
 | (i,t)::rest,a,w=>
  match ops[i]? with
  | none=>False
  | some o=>if t then J2c P ops S o a w (fun a' w'=>wpOrd P ops Q S rest a' w') else J23 P ops Q o a w (fun a' w'=>S w'/\wpOrd P ops Q S rest a' w')

theorem J40(hs:Region.noSelect ops=true)(hQ:∀c (a:Act) d v w,Q (.panic c) (a.put d v) w->Q (.panic c) a w):
  ∀(l:List (Nat × Bool)) (listed:Array Bool) (a:Act) (w:World),ordB md ops l listed=true->S w->wpOrd P ops Q S l a w->wpAnyH P md ops Q S l.length listed a w
 | [],listed,a,w,hB,_,h=>⟨by simpa[ordB]using hB,h⟩
 | (i,t)::rest,listed,a,w,hB,hS,h=>by
  simp only[ordB,Bool.and_eq_true]at hB;obtain⟨⟨ho,hc⟩,hB'⟩:=hB;obtain⟨o,ho⟩:=Option.isSome_iff_exists.1 ho;simp only[wpOrd,ho]at h;cases t with
  | true=>
   simp only[if_true,Bool.and_eq_true]at hc h;unfold J2c at h;by_cases hw:Region.wanted o (yielded ops a.tmps)=true
   ·rw[if_pos hw]at h
    obtain⟨v,hv,hk⟩:=h;exact wpAnyH_take ho hs hc.1 hc.2 (fun c a w=>hQ c a _ _ w) (.inl ⟨hw,fun w' hw'=>hv ⟨w',hw'⟩⟩) hS (J40 hs hQ rest _ _ _ hB' hS hk)
   ·rw[if_neg hw]at h
    exact wpAnyH_take ho hs hc.1 hc.2 (fun c a w=>hQ c a _ _ w) (.inr ⟨by simpa using hw,rfl⟩) hS (J40 hs hQ rest _ _ _ hB' hS h)
  | false=>
   simp only[Bool.false_eq_true,if_false,beq_iff_eq]at hc h;refine wpAnyH_all hc (by simp) (fun j hj=>?_);obtain rfl:j=i:=by simpa using hj
   unfold J23 at h;unfold wpOp;rw[ho];show if Region.wanted o (yielded ops a.tmps)=true then _ else _
   by_cases hw:Region.wanted o (yielded ops a.tmps)=true
   ·rw[if_pos hw]at h |-
    exact .inl (Oper.wp_mono (fun a' w' h'=>⟨h'.1,J40 hs hQ rest _ _ _ hB' h'.1 h'.2⟩) h)
   ·rw[if_neg hw]at h |-
    exact⟨hS,J40 hs hQ rest _ _ _ hB' h.1 h.2⟩

structure Ord(P:Program)(ops:Array Oper)(Q:Exit->Act->World->Prop)(S:World->Prop)(l:List (Nat × Bool))(a:Act)(w:World):Prop where
 out:wpOrd P ops Q S l a w

theorem J04{id:Nat}{a:Act}{w:World}(l:List (Nat × Bool))(hm:P.follows .mixedOrders=true)(hs:Region.noSelect ops=true)
  (hB:(ordB .any ops l (Array.replicate ops.size false)&&l.length==ops.size)=true) (hS:S w.drew) (h:Ord P ops (NoPanic Q) S l a w.drew):(Code.region id ops true).wp P Q a w:=by
 rw[Bool.and_eq_true]at hB;have hl:l.length=ops.size:=by simpa using hB.2
 refine wp_region_noPanic (wp_region_held_drew (S:=S) hm hS (fun _=>?_));rw[<-hl];have:=J40 (P:=P) (md:=.any) (S:=S) (Q:=NoPanic Q) hs (fun _ _ _ _ _ h=>h) l (Array.replicate ops.size false) a w.drew hB.1 hS h.out
 rwa [<-hl]at this

def nth{α:Type}:List α->Nat->Option α
 | [],_=>none
 | x::_,0=>some x
 | _::l,n+1=>nth l n
theorem Jmy{α:Type}:∀(l:List α) (n:Nat),nth l n=l[n]?
 | [],_=>rfl
 | _::_,0=>rfl
 | _::l,n+1=>by rw[nth,Jmy l n];rfl
theorem J26{α:Type}{l:List α}{n:Nat}{x:α}(h:nth l n=some x):l.toArray[n]?=some x:=by rw[List.getElem?_toArray,<-Jmy];exact h

theorem J00{ls:List Oper}{i:Nat}{o:Oper}{rest:List (Nat × Bool)}{a:Act}{w:World}(ho':nth ls i=some o)(hw:Region.wanted o (yielded ls.toArray a.tmps)=true)
  (h:∀K:Act->World->Prop,(∀a w,Ord P ls.toArray Q S rest a w->K a w)->∃v,(∀i:{ w' // S w' },(execOp a.eval o).run P i.val=.ok (.value v) i.val)/\K (a.put o.dst v) w):
  Ord P ls.toArray Q S ((i,true)::rest) a w:=by
 have ho:=J26 ho';refine⟨?_⟩;simp only[wpOrd,ho];unfold J2c;simp only[if_true];rw[if_pos hw];exact h _ (fun _ _ h=>h.out)
theorem J03{ls:List Oper}{i:Nat}{o:Oper}{rest:List (Nat × Bool)}{a:Act}{w:World}(ho':nth ls i=some o)(hw:Region.wanted o (yielded ls.toArray a.tmps)=true)
  (h:∀K:Act->World->Prop,(∀a w,S w->Ord P ls.toArray Q S rest a w->K a w)->Oper.wp P o a w K Q):Ord P ls.toArray Q S ((i,false)::rest) a w:=by
 have ho:=J26 ho';refine⟨?_⟩;simp only[wpOrd,ho,Bool.false_eq_true,if_false];unfold J23;rw[if_pos hw];exact h _ (fun _ _ hs h=>⟨hs,h.out⟩)
theorem J2a{ls:List Oper}{i:Nat}{o:Oper}{x:Operand}{rest:List (Nat × Bool)}{a:Act}{w:World}(ho':nth ls i=some o)(hop:o.op=.move x)
  (hw:Region.wanted o (yielded ls.toArray a.tmps)=true)
  (h:∀K:Act->World->Prop,(∀a w,Ord P ls.toArray Q S rest a w->K a w)->K (a.put o.dst (a.eval x)) w):Ord P ls.toArray Q S ((i,true)::rest) a w:=by
 refine J00 ho' hw (fun K hK=>⟨a.eval x,fun i=>?_,h K hK⟩);unfold execOp;rw[hop]
 rfl
theorem J52{ls:List Oper}{i:Nat}{o:Oper}{x:Operand}{rest:List (Nat × Bool)}{a:Act}{w:World}(ho':nth ls i=some o)(hop:o.op=.assign x)
  (hw:Region.wanted o (yielded ls.toArray a.tmps)=true)
  (h:∀K:Act->World->Prop,(∀a w,Ord P ls.toArray Q S rest a w->K a w)->K (a.put o.dst (a.eval x)) w):Ord P ls.toArray Q S ((i,true)::rest) a w:=by
 refine J00 ho' hw (fun K hK=>⟨a.eval x,fun i=>?_,h K hK⟩);unfold execOp;rw[hop]
 rfl

theorem J14{ls:List Oper}{i:Nat}{o:Oper}{c x y:Operand}{rest:List (Nat × Bool)}{a:Act}{w:World}(ho':nth ls i=some o)(hop:o.op=.pick c x y)
  (hw:Region.wanted o (yielded ls.toArray a.tmps)=true) (hc:a.eval c=.bool false)
  (h:∀K:Act->World->Prop,(∀a w,Ord P ls.toArray Q S rest a w->K a w)->K (a.put o.dst (a.eval y)) w):Ord P ls.toArray Q S ((i,true)::rest) a w:=by
 have ho:=J26 ho';refine⟨?_⟩;simp only[wpOrd,ho];unfold J2c;simp only[if_true];rw[if_pos hw];refine⟨a.eval y,fun i=>?_,h _ (fun _ _ h=>h.out)⟩;unfold execOp;rw[hop];dsimp only;rw[hc]
 rfl
theorem J1p{ls:List Oper}{i:Nat}{o:Oper}{c x y:Operand}{rest:List (Nat × Bool)}{a:Act}{w:World}(ho':nth ls i=some o)(hop:o.op=.pick c x y)
  (hw:Region.wanted o (yielded ls.toArray a.tmps)=true) (hc:a.eval c=.bool true)
  (h:∀K:Act->World->Prop,(∀a w,Ord P ls.toArray Q S rest a w->K a w)->K (a.put o.dst (a.eval x)) w):Ord P ls.toArray Q S ((i,true)::rest) a w:=by
 have ho:=J26 ho';refine⟨?_⟩;simp only[wpOrd,ho];unfold J2c;simp only[if_true];rw[if_pos hw];refine⟨a.eval x,fun i=>?_,h _ (fun _ _ h=>h.out)⟩;unfold execOp;rw[hop];dsimp only;rw[hc]
 rfl

theorem J2b{ls:List Oper}{i:Nat}{o:Oper}{t:Bool}{rest:List (Nat × Bool)}{a:Act}{w:World}(ho':nth ls i=some o)(hS:S w)
  (hw:Region.wanted o (yielded ls.toArray a.tmps)=false) (hp:a.put o.dst undef=a) (h:Ord P ls.toArray Q S rest a w):Ord P ls.toArray Q S ((i,t)::rest) a w:=by
 have ho:=J26 ho';refine⟨?_⟩;simp only[wpOrd,ho];unfold J2c J23;rw[hw,hp];cases t
 ·simp only[Bool.false_eq_true,if_false];exact⟨hS,h.out⟩
 ·simp only[Bool.false_eq_true,if_false,if_true];exact h.out
theorem Jhu{ls:List Oper}{i:Nat}{o:Oper}{t:Bool}{rest:List (Nat × Bool)}{a:Act}{w:World}(ho':nth ls i=some o)(hS:S w)
  (hw:Region.wanted o (yielded ls.toArray a.tmps)=false)
  (h:∀K:Act->World->Prop,(∀a w,Ord P ls.toArray Q S rest a w->K a w)->K (a.put o.dst undef) w):Ord P ls.toArray Q S ((i,t)::rest) a w:=by
 have ho:=J26 ho';refine⟨?_⟩;have hk:=h (fun a w=>wpOrd P ls.toArray Q S rest a w) (fun _ _ h=>h.out);simp only[wpOrd,ho];unfold J2c J23;rw[hw];cases t
 ·simp only[Bool.false_eq_true,if_false];exact⟨hS,hk⟩
 ·simp only[Bool.false_eq_true,if_false,if_true];exact hk
theorem J06{a:Act}{w:World}(h:Q .normal a w):Ord P ops (NoPanic Q) S [] a w:=⟨h⟩

end
end
section
open Go.RowKit
set_option linter.unusedSimpArgs false
set_option linter.unusedVariables false
set_option maxRecDepth 8000
structure LaiE(w:World):Prop extends Lai w where
 syn:∃tp p t fz,w.heap[4]?=some (.cells #[.iface tp p] t fz)
 rng:∃tp p t fz,w.heap[5]?=some (.cells #[.iface tp p] t fz)
theorem Jpc{P:Program}{w:World}{n:String}{g:Nat}{cs:Array Value}{t:TypeId}{fz:Nat × Nat}(hg:P.globalNamed n=some g)(h:w.heap[g]?=some (.cells cs t fz)):w.var? P n=some cs:=by
 unfold World.var?;rw[hg];show(match w.heap[g]? with | some (.cells cs _ _)=>some cs | _=>none)=some cs;rw[h]
theorem LaiE.more{w w':World}(h:LaiE w)(m:More w w'):LaiE w':=by
 obtain⟨a,⟨t,p,x,y,b⟩,⟨t',p',x',y',c⟩⟩:=h;exact⟨a.more m,⟨t,p,x,y,J1r m b⟩,⟨t',p',x',y',J1r m c⟩⟩

theorem J62(x y:List UInt8):(txt (x++y)).extract 0 x.length=txt x/\(txt (x++y)).extract x.length (x++y).length=txt y:=by
 have key:∀s t:ByteArray,s.data.toList=t.data.toList->s=t:=fun s t h=>by
  obtain⟨⟨s⟩⟩:=s;obtain⟨⟨t⟩⟩:=t;have h:s=t:=h;rw[h]
 constructor
 ·apply key
  rw[Lib.extract_data]
  simp
 ·apply key
  rw[Lib.extract_data]
  simp
section
variable {P:Program} {w:World}
theorem J57{n:String}{d:DataW Unit}{r:List (String × DataW Unit)}(h:laidMet P ((n,d)::r) w):∃g t cs fuel p,P.globalNamed n=some g/\(P.globals[g]?).map (·.type)=some t/\w.var? P n=some cs/\DataW.trod (fun _=>()) P w 0 (fun _=>true) false fuel t cs.toList=some (d,p):=by
 obtain⟨ps,⟨g,t,cs,fuel,p,q,h1,h2,h3,h4,_,_⟩,_⟩:=h;exact⟨g,t,cs,fuel,p,h1,h2,h3,h4⟩
theorem J6r{n:String}{g:Nat}{cs:Array Value}(hg:P.globalNamed n=some g)(h:w.var? P n=some cs):∃t fz,w.heap[g]?=some (.cells cs t fz):=by
 unfold World.var? at h;rw[hg]at h;have h:(match w.heap[g]? with | some (.cells cs _ _)=>some cs | _=>none)=some cs:=h
 split at h
 ·rename_i c t fz e
  obtain rfl:=Option.some.inj h;exact⟨t,fz,e⟩
 ·cases h
end
theorem J6p{cs:List Value}{k:Nat}{v:Value}(h:(cs.drop k).take 1=[v]):cs[k]?=some v:=by
 have:=congrArg (·[0]?) h;simpa[List.getElem?_take,List.getElem?_drop]using this
def Jcj{H:Type}(x:Kd):DataW H:=.agg [.lit (.string x.1),.lit (.int .i64 x.2.1),.lit (.int .i64 x.2.2.1),.lit (.string x.2.2.2)]
theorem c_str:Tryz.prog.cellsOf 9=1:=by kernel_rfl
theorem c_int:Tryz.prog.cellsOf 3=1:=by kernel_rfl
theorem Jmr:Tryz.prog.cellsOf 147=4:=by kernel_rfl
theorem Jnf:Tryz.prog.cellsOf 181=100:=by kernel_rfl
theorem J78{s:ByteArray}{l:List UInt8}(h:s.data.toList=l):s=txt l:=by
 obtain⟨⟨s⟩⟩:=s;have h:s=l:=h;rw[h]
theorem Jgz{w:World}{fuel:Nat}{cs:List Value}{x:Kd}{p:List MemPlace}(h:DataW.trod (fun _=>()) Tryz.prog w 0 (fun _=>true) false fuel 147 cs=some (Jcj x,p)):cs=J1s x:=by
 obtain⟨xs,n,rfl,hx,hl,hxl,hall⟩:=DataW.trod_struct Tryz.underlying147 h;rw[Jmr]at hl
 have hx3:xs.map (·.1)=[.lit (.string x.1),.lit (.int .i64 x.2.1),.lit (.int .i64 x.2.2.1),.lit (.string x.2.2.2)]:=by
  have:=congrArg Prod.fst hx;simpa[Jcj]using this.symm
 obtain⟨x0,x1,x2,x3,rfl⟩:∃x0 x1 x2 x3,xs=[x0,x1,x2,x3]:=by
  match xs,hx3 with
  | [x0,x1,x2,x3],_=>exact⟨x0,x1,x2,x3,rfl⟩
 simp only[List.map_cons,List.map_nil,List.cons.injEq,and_true]at hx3;obtain⟨e0,e1,e2,e3⟩:=hx3;have f0:=hall 0 _ rfl;have f1:=hall 1 _ rfl;have f2:=hall 2 _ rfl;have f3:=hall 3 _ rfl
 change DataW.trod _ _ _ _ _ _ _ 9 ((cs.drop 0).take (Tryz.prog.cellsOf 9))=some x0 at f0
 change DataW.trod _ _ _ _ _ _ _ 3 ((cs.drop 1).take (Tryz.prog.cellsOf 3))=some x1 at f1
 change DataW.trod _ _ _ _ _ _ _ 3 ((cs.drop 2).take (Tryz.prog.cellsOf 3))=some x2 at f2
 change DataW.trod _ _ _ _ _ _ _ 9 ((cs.drop 3).take (Tryz.prog.cellsOf 9))=some x3 at f3
 rw[c_str]at f0 f3;rw[c_int]at f1 f2
 have g0:cs[0]?=some (.string (txt x.1)):=by
  obtain⟨z,hz,hx',_⟩:=DataW.trod_string Tryz.underlying9 f0;rw[hx']at e0;have e0:z.data.toList=x.1:=by injection e0 with e0;injection e0
  rw[<-J78 e0];exact J6p hz
 have g1:cs[1]?=some (V x.2.1):=by
  obtain⟨z,hz,hx',_⟩:=DataW.trod_int Tryz.underlying3 f1;rw[hx']at e1;cases e1
  exact J6p hz
 have g2:cs[2]?=some (V x.2.2.1):=by
  obtain⟨z,hz,hx',_⟩:=DataW.trod_int Tryz.underlying3 f2;rw[hx']at e2;cases e2
  exact J6p hz
 have g3:cs[3]?=some (.string (txt x.2.2.2)):=by
  obtain⟨z,hz,hx',_⟩:=DataW.trod_string Tryz.underlying9 f3;rw[hx']at e3;have e3:z.data.toList=x.2.2.2:=by injection e3 with e3;injection e3
  rw[<-J78 e3];exact J6p hz
 match cs,hl,g0,g1,g2,g3 with
 | [c0,c1,c2,c3],_,g0,g1,g2,g3=>
  simp at g0 g1 g2 g3;subst g0 g1 g2 g3
  rfl
theorem Jec{w:World}{fuel:Nat}{cs:List Value}{p:List MemPlace}(h:DataW.trod (fun _=>()) Tryz.prog w 0 (fun _=>true) false fuel 181 cs=some (.agg (kindsT.map Jcj),p)):cs=kindsC:=by
 cases fuel with
 | zero=>simp[DataW.trod]at h
 | succ fuel=>
  simp only[DataW.trod,Tryz.underlying181,Jnf,Jmr]at h
  split at h
  ·rename_i hl
   obtain⟨xs,hm,hx⟩:=Option.map_eq_some_iff.1 h
   have hxs:xs.map (·.1)=kindsT.map Jcj:=by
    have:=congrArg Prod.fst hx;simpa using this
   have part:∀i x,kindsT[i]?=some x->(cs.drop (i*4)).take 4=J1s x:=fun i x hi=>by
    have h25:i < 25:=by
     have:=(List.getElem?_eq_some_iff.1 hi).1;simpa[J21]using this
    obtain⟨b,hb,hf⟩:=Lib.mapM_at hm i i (by simp[h25]);have h1:(xs.map (·.1))[i]?=some b.1:=by simp[hb]
    rw[hxs,List.getElem?_map,hi]at h1;obtain⟨b1,b2⟩:=b;obtain rfl:=Option.some.inj h1;exact Jgz hf
   apply List.ext_getElem?;intro j;by_cases hj:j < 100
   ·have hi:j / 4 < 25:=by omega
    obtain⟨x,hx⟩:∃x,kindsT[j / 4]?=some x:=⟨kindsT[j / 4]'(by rw[J21];exact hi),List.getElem?_eq_getElem _⟩;obtain⟨k0,k1,k2,k3⟩:=Jiv _ x hx;have hp:=part _ x hx
    have get:∀r,r < 4->cs[j / 4*4+r]?=(J1s x)[r]?:=fun r hr=>by
     rw[<-hp,List.getElem?_take,if_pos hr,List.getElem?_drop]
    have hr:j % 4 < 4:=Nat.mod_lt _ (by decide);have hj4:j=j / 4*4+j % 4:=by omega
    rcases(show j % 4=0\/j % 4=1\/j % 4=2\/j % 4=3 by omega) with q | q | q | q
    ·rw[q]at hj4;rw[hj4,get 0 (by omega)];exact k0.symm
    ·rw[q]at hj4;rw[hj4,get 1 (by omega)];exact k1.symm
    ·rw[q]at hj4;rw[hj4,get 2 (by omega)];exact k2.symm
    ·rw[q]at hj4;rw[hj4,get 3 (by omega)];exact k3.symm
   ·rw[List.getElem?_eq_none (by omega),List.getElem?_eq_none (by rw[Jb6];omega)]
  ·cases h
theorem Jix{w:World}{r:List (String × DataW Unit)}{n:String}(hn:Tryz.prog.globalNamed n=some 1)(h:laidMet Tryz.prog ((n,.agg (kindsT.map Jcj))::r) w):∃t fz,w.heap[1]?=some (.cells kindsC.toArray t fz):=by
 obtain⟨g,t,cs,fuel,p,h1,h2,h3,h4⟩:=J57 h;obtain rfl:=Option.some.inj (h1.symm.trans hn);obtain rfl:=Option.some.inj (h2.symm.trans (show(Tryz.prog.globals[1]?).map (·.type)=some 181 by kernel_rfl));have e:=Jec h4;rw[<-e];exact J6r hn h3
theorem Jnn{w:World}{r:List (String × DataW Unit)}{n:String}(hn:Tryz.prog.globalNamed n=some 3)(h:laidMet Tryz.prog ((n,Lib.tabData .u64 Lib.pow10Tab)::r) w):∃t fz,w.heap[3]?=some (.cells (Lib.pow10Tab.map fun z=>Value.int .u64 z).toArray t fz):=by
 have:=Lib.tabIs_of_head hn (show(Tryz.prog.globals[3]?).map (·.type)=some 219 by kernel_rfl) Tryz.underlying219 Tryz.underlying187 (by kernel_rfl) (by kernel_rfl) h;exact J6r hn this
theorem Jgs{w:World}{fuel:Nat}{cs:List Value}{nm:String}{d:DataW Unit}{p:List MemPlace}(h:DataW.trod (fun _=>()) Tryz.prog w 0 (fun _=>true) false fuel 71 cs=some (.iface nm d,p)):∃u v,cs=[.iface u v]:=by
 cases fuel with
 | zero=>simp[DataW.trod]at h
 | succ n=>
  unfold DataW.trod at h;rw[Tryz.underlying71]at h
  split at h<;>simp_all
theorem Jiw{w:World}{r:List (String × DataW Unit)}{n nm:String}{d:DataW Unit}{g:Nat}(hn:Tryz.prog.globalNamed n=some g)(ht:(Tryz.prog.globals[g]?).map (·.type)=some 71)(h:laidMet Tryz.prog ((n,.iface nm d)::r) w):∃tp p t fz,w.heap[g]?=some (.cells #[.iface tp p] t fz):=by
 obtain⟨g',t,cs,fuel,p,h1,h2,h3,h4⟩:=J57 h;obtain rfl:=Option.some.inj (h1.symm.trans hn);obtain rfl:=Option.some.inj (h2.symm.trans ht);obtain⟨u,v,e⟩:=Jgs h4;obtain⟨t',fz,hh⟩:=J6r hn h3;refine⟨u,v,t',fz,?_⟩;have:cs=#[.iface u v]:=by rw[<-Array.toArray_toList (xs:=cs),e]
 rw[<-this];exact hh
theorem Jao(n:Int)(w:World)(hn:B64 n):Calls Tryz.prog 23 #[V n] w fun e w'=>e=.returned (.string (txt (digI n)))/\More w w':=by
 suffices hP:∀P:Ending->World->Prop,(∀w',More w w'->P (.returned (.string (txt (digI n)))) w')->Calls Tryz.prog 23 #[V n] w P from hP _ (fun w' m=>⟨rfl,m⟩)
 intro P hP0;have HP:Hid (∀w',More w w'->P (.returned (.string (txt (digI n)))) w'):=hP0;have HB:Hid (B64 n):=hn;clear hP0 hn;go_enter Tryz.func23,Tryz.ntmps23;go_wp2_with (fail)
 go_loopg [3,4] 20 (fun g sv lv wr=>∃(l:List UInt8) (x:Int) (a:ByteArray),sv=.string a/\lv=V x/\Hid (a=txt l/\dig 20 n.natAbs=dig g x.natAbs++l/\l.length+g<=20/\x.natAbs < 10 ^ g/\(g=20\/¬x=0)/\B64 x/\More w wr))
 case atStart=>
  refine⟨[],n,_,rfl,rfl,rfl,by simp,by simp,?_,.inl rfl,HB.out,More.refl _⟩;have:=HB.out;unfold B64 at this;omega
 case round=>
  obtain⟨l,x,a,rfl,rfl,Hr⟩:=hrel;obtain⟨hl,hd,hlen,hx,h0,hb,hm⟩:=Hr.out;cases gk with
  | zero=>exfalso;simp at hx;rcases h0 with h0 | h0<;>omega
  | succ g=>
   unfold B64 at hb;have Hq:Hid (a=txt l/\dig 20 n.natAbs=dig (g+1) x.natAbs++l/\l.length+(g+1)<=20/\x.natAbs < 10 ^ (g+1)/\B64 x/\More w wr):=⟨hl,hd,hlen,hx,hb,hm⟩;have hsz:a.size<=20:=by rw[hl,J0e];omega
   clear hd hlen h0 hl hx hm
   have key:∀(q:Int) (c:ByteArray),q.natAbs=x.natAbs / 10->B64 q->c=txt [UInt8.ofNat (48+x.natAbs % 10)]->∀w',More wr w'->
     (q=0->(n < 0->P (.returned (.string (txt [45]++(c++a)))) w')/\(¬n < 0->P (.returned (.string (c++a))) w'))/\
     (¬q=0->∃(l:List UInt8) (x:Int) (a':ByteArray),Value.string (c++a)=.string a'/\Value.int .i64 q=V x/\Hid (a'=txt l/\dig 20 n.natAbs=dig g x.natAbs++l/\l.length+g<=20/\x.natAbs < 10 ^ g/\(g=20\/¬x=0)/\B64 x/\More w w')):=by
    intro q c hq hqb hc w' mm;obtain⟨h1,h2,h3,h4,h5,h6⟩:=Hq.out;rw[show dig (g+1) x.natAbs=(if x.natAbs / 10=0 then[] else dig g (x.natAbs / 10))++[UInt8.ofNat (48+x.natAbs % 10)] from rfl]at h2;refine⟨fun q0=>?_,fun q0=>?_⟩
    ·have:=HP.out w' (h6.trans mm)
     have e:x.natAbs / 10=0:=by omega
     rw[if_pos e,List.nil_append]at h2;rw[hc,h1,J1k];unfold digI at this;rw[h2]at this;refine⟨fun hn0=>?_,fun hn0=>?_⟩
     ·rw[if_pos hn0]at this;rw[J1k];exact this
     ·rw[if_neg hn0,List.nil_append]at this;exact this
    ·have e:¬x.natAbs / 10=0:=by omega
     rw[if_neg e,List.append_assoc]at h2;refine⟨[UInt8.ofNat (48+x.natAbs % 10)]++l,q,_,rfl,rfl,by rw[hc,h1,J1k],by rw[hq];exact h2,by simp;omega,?_,.inr q0,hqb,h6.trans mm⟩;rw[hq];rw[Nat.pow_succ]at h4;omega
   have Hkey:=J0n key;clear key;by_cases hx0:0<=x
   ·have hcv:=Jc9 (48+x % 10) wr
    have hk:=Hkey.out (x / 10) (txt [UInt8.ofNat (48+x % 10).toNat]) (by omega) (by unfold B64;omega) (by rw[show(48+x % 10).toNat=48+x.natAbs % 10 by omega]) (wr.alloc (.cells #[.int .u8 (48+x % 10)] 5)) ((More.refl _).alloc _ _);obtain⟨c,hc⟩:∃c,txt [UInt8.ofNat (48+x % 10).toNat]=c:=⟨_,rfl⟩;have hcs:c.size=1:=by rw[<-hc,J0e];rfl
    rw[hc]at hcv hk;have HK:=J0n hk;clear hk hc;by_cases hq0:x / 10=0
    ·have HE:=J0n (HK.out.1 hq0)
     clear HK;by_cases hn0:n < 0
     ·have HF:=J0n (HE.out.1 hn0)
      clear HE;go_wp2;exact HF.out
     ·have HF:=J0n (HE.out.2 hn0)
      clear HE;go_wp2;exact HF.out
    ·have HE:=J0n (HK.out.2 hq0)
     clear HK;go_wp2;go_roundg g
     case measure=>omega
     case rel=>exact HE.out
   ·have ht:x.tmod 10 = -((-x) % 10):=by rw[tmod_eq_if,if_neg hx0]
    have hu:x.tdiv 10 = -((-x) / 10):=by
     have h1:=Int.mul_tdiv_add_tmod x 10;omega
    obtain⟨r,hr⟩:∃r,x.tmod 10=r:=⟨_,rfl⟩;obtain⟨q,hq⟩:∃q,x.tdiv 10=q:=⟨_,rfl⟩;have hr1:(x.natAbs % 10:Nat)=(-r).toNat /\ -9<=r/\r<=0:=by omega
    have hqn:q.natAbs=x.natAbs / 10/\B64 q /\ -922337203685477581<=q/\q<=0:=by unfold B64;omega
    clear ht hu;obtain⟨d,hd⟩:∃d:Int,d = -r:=⟨_,rfl⟩;have hk:=Hkey.out q (txt [UInt8.ofNat (48+d).toNat]) hqn.1 hqn.2.1 (by rw[show(48+d).toNat=48+x.natAbs % 10 by omega]);have hcv:=Jc9 (48+d) wr;obtain⟨c,hc⟩:∃c,txt [UInt8.ofNat (48+d).toNat]=c:=⟨_,rfl⟩;have hcs:c.size=1:=by rw[<-hc,J0e];rfl
    rw[hc]at hcv hk;have HK:=J0n (hk (wr.alloc (.cells #[.int .u8 (48+d)] 5)) ((More.refl _).alloc _ _));clear hk hc;have w1:wrap64 q=q:=by unfold wrap64;omega
    by_cases hr0:r < 0
    ·have w2:wrap64 (-r)=d:=by unfold wrap64;omega
     have w3:wrap64 (48+d)=48+d:=by unfold wrap64;omega
     have w4:(48+d) % 256=48+d:=by omega
     clear hr1 hqn hd;by_cases hq0:q=0
     ·have HE:=J0n (HK.out.1 hq0)
      clear HK;by_cases hn0:n < 0
      ·have HF:=J0n (HE.out.1 hn0)
       clear HE;go_wp2;exact HF.out
      ·have HF:=J0n (HE.out.2 hn0)
       clear HE;go_wp2;exact HF.out
     ·have HE:=J0n (HK.out.2 hq0)
      have hqb:(q==0)=false:=by simp[hq0]
      clear HK;go_wp2;go_roundg g
      case measure=>omega
      case rel=>exact HE.out
    ·obtain rfl:r=0:=by omega
     obtain rfl:d=0:=by omega
     have w3:wrap64 48=48:=by unfold wrap64;omega
     simp only[Int.add_zero]at hcv;clear hr1 hqn hd;by_cases hq0:q=0
     ·have HE:=J0n (HK.out.1 hq0)
      clear HK;by_cases hn0:n < 0
      ·have HF:=J0n (HE.out.1 hn0)
       clear HE;go_wp2;exact HF.out
      ·have HF:=J0n (HE.out.2 hn0)
       clear HE;go_wp2;exact HF.out
     ·have HE:=J0n (HK.out.2 hq0)
      have hqb:(q==0)=false:=by simp[hq0]
      clear HK;go_wp2;go_roundg g
      case measure=>omega
      case rel=>exact HE.out
end
section
open Go.ChangeShapes Go.WideShapes Go.ChangeAt Go.RowKit Go.Deep Go.Joins
set_option maxRecDepth 8000
def I64(x:Int):Prop := -9223372036854775808<=x/\x<=9223372036854775807
def Ins.fits(i:Ins):Prop:=I64 i.op/\I64 i.a/\I64 i.b/\I64 i.c/\I64 i.n

structure Prg.Fit(p:Prg):Prop where
 rl:p.rl<=maxLen
 cl:p.cl<=maxLen
 log:∀i,i < p.rl->I64 (p.log i)
 ins:∀i,i < p.cl->(p.ins i).fits

section
variable {H:Type} {enc:TypeId × Value->H} {W:World} {base:Nat} {held:Bool}

end
end
section
open Go.ChangeShapes Go.WideShapes Go.ChangeAt Go.RowKit Go.Deep Go.Joins
set_option linter.unusedVariables false
set_option maxRecDepth 8000
structure MRaw(w:World)(m:Mem)(l:MLoc):Prop where
 hm:0 < m.ml->l.ma=some ⟨l.mb,l.mo,none⟩
 lists:ListsAt w l.mb l.mo m.ml l.A m.len l.C
 hg:∀i,i < m.ml->0 < m.len i->l.A i=some ⟨l.gb i,l.go i,none⟩
 words:∀i,i < m.ml->∀j,j < m.len i->w.cell? ⟨l.gb i,l.go i+j,none⟩=some (V (m.wd i j))
theorem MRaw.more{w w':World}(m:More w w'){x:Mem}{l:MLoc}(h:MRaw w x l):MRaw w' x l:=
 ⟨h.hm,h.lists.more m,h.hg,fun i hi j hj=>m.cell (h.words i hi j hj)⟩
theorem MRaw.in_{w:World}{m:Mem}{l:MLoc}(h:MRaw w m l)(h1:m.ml<=6)(h2:∀i,i < m.ml->m.len i<=64):MIn w m l:=
 ⟨h.hm,h.lists,h.hg,h.words,by omega,fun i hi=>by have:=h2 i hi;omega⟩
end
section
open Go.RowKit
set_option linter.unusedSimpArgs false
set_option linter.unusedVariables false
theorem J3m{P:Prop}(h:P):Hid P:=h
structure SIn(w:World)(sa:Option Addr)(sb so:Nat)(L:List Int):Prop where
 ha:0 < L.length->sa=some ⟨sb,so,none⟩
 cells:∀(j:Nat) (c:Int),L[j]?=some c->w.cell? ⟨sb,so+j,none⟩=some (V c)
theorem SIn.more{w w':World}(m:More w w'){sa:Option Addr}{sb so:Nat}{L:List Int}(h:SIn w sa sb so L):SIn w' sa sb so L:=⟨h.ha,fun j c hc=>m.cell (h.cells j c hc)⟩
def ScOk(L:List Int):Prop:=L.length<=2000/\∀(j:Nat) (c:Int),L[j]?=some c->0<=c
end
section
open Go.RowKit
set_option linter.unusedSimpArgs false
set_option linter.unusedVariables false
set_option maxRecDepth 8000
def numsL:List Int->List UInt8
 | []=>[]
 | x::l=>32::digI x++numsL l
theorem J8m:∀l m,numsL (l++m)=numsL l++numsL m
 | [],m=>rfl
 | x::l,m=>by simp[numsL,J8m l m]
theorem J2t:∀l,(numsL l).length<=22*l.length
 | []=>by simp[numsL]
 | x::l=>by have h1:=J2t l;have h2:=J0m x;simp only[numsL,List.length_append,List.length_cons];omega
theorem J58(l:List Int)(k:Nat)(x:Int)(h:l[k]?=some x):numsL (l.take (k+1))=numsL (l.take k)++([32]++digI x):=by
 rw[List.take_add_one,h,J8m];simp[numsL]

theorem J5a(s:ByteArray)(L:List Int)(sa:Option Addr)(sb so sn sc:Nat)(w:World)(hL:L.length=sn)(hb:∀x ∈ L,B64 x)(hz:s.size+22*sn<=1099511627776)(hs:SIn w sa sb so L):
  Calls Tryz.prog 10 #[.string s,.slice sa sn sc] w fun e w'=>e=.returned (.string (s++txt (numsL L)))/\More w w':=by
 suffices hP:∀P:Ending->World->Prop,(∀w',More w w'->P (.returned (.string (s++txt (numsL L)))) w')->Calls Tryz.prog 10 #[.string s,.slice sa sn sc] w P from hP _ (fun w' m=>⟨rfl,m⟩)
 intro P hP0;have HP:Hid (∀w',More w w'->P (.returned (.string (s++txt (numsL L)))) w'):=hP0
 have CD:Hid (∀x,x ∈ L->∀w1,Calls Tryz.prog 23 #[V x] w1 fun e w'=>∃d:ByteArray,e=.returned (.string d)/\d=txt (digI x)/\d.size<=21/\More w1 w'):=fun x hx w1=>by
  refine(Jao x w1 (hb x hx)).mono ?_;rintro e w' ⟨rfl,mm⟩;exact⟨_,rfl,rfl,by rw[J0e];exact J0m _,mm⟩
 have H:Hid (L.length=sn/\SIn w sa sb so L/\s.size+22*sn<=1099511627776):=⟨hL,hs,hz⟩;clear hP0 hL hb hz hs;go_enter Tryz.func10,Tryz.ntmps10;go_wp2_with (fail)
 go_loopg [0,5] sn (fun g sv kv wr=>∃(k:Nat) (t:ByteArray),k+g=sn/\sv=.string t/\kv=V k/\Hid (t=s++txt (numsL (L.take k))/\More w wr))
 case atStart=>exact⟨0,_,by omega,rfl,rfl,by show _=_;simp[numsL,txt];apply ByteArray.ext;simp,More.refl _⟩
 case round=>
  obtain⟨k,t,hkg,rfl,rfl,Hr⟩:=hrel
  have htz:t.size<=s.size+22*k:=by
   rw[Hr.out.1,ByteArray.size_append,J0e (numsL (L.take k))];have:=J2t (L.take k);have h2:(L.take k).length<=k:=by simp;omega
   omega
  have hzz:=H.out.2.2;cases gk with
  | zero=>
   obtain rfl:k=sn:=by omega
   have Hend:Hid (P (.returned (.string t)) wr):=by
    have:=HP.out wr Hr.out.2;rw[Hr.out.1,List.take_of_length_le (by rw[H.out.1];exact Nat.le_refl _)];exact this
   clear HP htz hzz;go_wp2;exact Hend.out
  | succ g=>
   have hk:k < sn:=by omega
   have hki:(k:Int) < (sn:Int):=by omega
   have hk0:(0:Int)<=(k:Int):=by omega
   have hk63:wrap64 ((k:Int)+1)=(k:Int)+1:=by unfold wrap64;omega
   obtain⟨x,Hx⟩:∃x,Hid (L[k]?=some x):=⟨_,List.getElem?_eq_getElem (by rw[H.out.1];exact hk)⟩;obtain rfl:=H.out.2.1.1 (by rw[H.out.1];omega);have q:=Hr.out.2.cell (H.out.2.1.2 k x Hx.out);have CX:=J0n (CD.out x (List.mem_of_getElem? Hx.out));have t1:t.size+1 < 4611686018427387904:=by omega
   clear CD;go_wp2_with (fail)
   refine(CX.out _).mono ?_;rintro e w1 ⟨d,rfl,hd,hdz,m1⟩
   have Hn:Hid (t++txt [32]++d=s++txt (numsL (L.take (k+1)))/\More w w1):=by
    refine⟨?_,Hr.out.2.trans m1⟩;rw[J58 L k x Hx.out,hd,Hr.out.1,ByteArray.append_assoc,ByteArray.append_assoc,J1k [32] (digI x),J1k (numsL (L.take k)) ([32]++digI x)]
   clear hd m1 CX q;go_wp2;go_roundg g
   case measure=>omega
   case rel=>exact⟨k+1,_,by omega,rfl,by first | rfl | simp[hk63],Hn.out⟩
def ansL(s:List UInt8)(l:List Int):List UInt8:=s++numsL l
theorem Jah(s:List UInt8)(l:List Int):txt s++txt (numsL l)=txt (ansL s l):=J1k s (numsL l)
def badW:List UInt8:=[98,97,100]
def okW:List UInt8:=[111,107]
def endW:Int->List UInt8
 | 0=>[102,117,101,108]
 | 1=>[100,111,110,101]
 | _=>[102,97,117,108,116]
theorem Jbl{w:World}{b:Nat}{cs:Array Value}{T:TypeId}{L:List Int}(h:Blk w b cs T)(e:∀(j:Nat) (c:Int),L[j]?=some c->cs[j]?=some (V c)):SIn w (some ⟨b,0,none⟩) b 0 L:=⟨fun _=>rfl,fun j c hc=>by rw[Nat.zero_add];exact h.cell (e j c hc)⟩
theorem sin_1{w:World}{b:Nat}{T:TypeId}{x:Int}(h:Blk w b #[V x] T):SIn w (some ⟨b,0,none⟩) b 0 [x]:=Jbl h fun j c hc=>by
 match j,hc with
 | 0,hc=>simp at hc;subst hc;rfl
theorem sin_2{w:World}{b:Nat}{T:TypeId}{x y:Int}(h:Blk w b #[V x,V y] T):SIn w (some ⟨b,0,none⟩) b 0 [x,y]:=Jbl h fun j c hc=>by
 match j,hc with
 | 0,hc=>simp at hc;subst hc;rfl
 | 1,hc=>simp at hc;subst hc;rfl
theorem sin_3{w:World}{b:Nat}{T:TypeId}{x y z:Int}(h:Blk w b #[V x,V y,V z] T):SIn w (some ⟨b,0,none⟩) b 0 [x,y,z]:=Jbl h fun j c hc=>by
 match j,hc with
 | 0,hc=>simp at hc;subst hc;rfl
 | 1,hc=>simp at hc;subst hc;rfl
 | 2,hc=>simp at hc;subst hc;rfl

theorem J8w(s:List UInt8)(x:Int)(w:World)(b:Nat)(T:TypeId)(hs:s.length<=100)(hx:B64 x)(h:Blk w b #[V x] T):
  Calls Tryz.prog 10 #[.string (txt s),.slice (some ⟨b,0,none⟩) 1 1] w fun e w'=>e=.returned (.string (txt (ansL s [x])))/\More w w':=by
 rw[<-Jah];exact J5a (txt s) [x] _ b 0 1 1 w rfl (fun y hy=>by simp at hy;subst hy;exact hx) (by rw[J0e];omega) (sin_1 h)
theorem Jp7(s:List UInt8)(x y:Int)(w:World)(b:Nat)(T:TypeId)(hs:s.length<=100)(hx:B64 x)(hy:B64 y)(h:Blk w b #[V x,V y] T):
  Calls Tryz.prog 10 #[.string (txt s),.slice (some ⟨b,0,none⟩) 2 2] w fun e w'=>e=.returned (.string (txt (ansL s [x,y])))/\More w w':=by
 rw[<-Jah];exact J5a (txt s) [x,y] _ b 0 2 2 w rfl (fun z hz=>by simp at hz;rcases hz with rfl | rfl;exact hx;exact hy) (by rw[J0e];omega) (sin_2 h)
theorem Jp8(s:List UInt8)(x y z:Int)(w:World)(b:Nat)(T:TypeId)(hs:s.length<=100)(hx:B64 x)(hy:B64 y)(hz:B64 z)(h:Blk w b #[V x,V y,V z] T):
  Calls Tryz.prog 10 #[.string (txt s),.slice (some ⟨b,0,none⟩) 3 3] w fun e w'=>e=.returned (.string (txt (ansL s [x,y,z])))/\More w w':=by
 rw[<-Jah];exact J5a (txt s) [x,y,z] _ b 0 3 3 w rfl (fun v hv=>by simp at hv;rcases hv with rfl | rfl | rfl;exact hx;exact hy;exact hz) (by rw[J0e];omega) (sin_3 h)

theorem J5n(x y:Int)(w:World)(hx:B64 x)(hy:B64 y):
  Calls Tryz.prog 15 #[.agg #[V x,V y]] w fun e w'=>e=.returned (.string (txt (ansL badW [x,y])))/\More w w':=by
 suffices hP:∀P:Ending->World->Prop,(∀w',More w w'->P (.returned (.string (txt (ansL badW [x,y])))) w')->Calls Tryz.prog 15 #[.agg #[V x,V y]] w P from hP _ (fun w' m=>⟨rfl,m⟩)
 intro P hP0;have HP:Hid (∀w',More w w'->P (.returned (.string (txt (ansL badW [x,y])))) w'):=hP0;have CD:Hid (∀(w1:World) (b:Nat) (T:TypeId),Blk w1 b #[V x,V y] T->Calls Tryz.prog 10 #[.string ⟨#[98,97,100]⟩,.slice (some ⟨b,0,none⟩) 2 2] w1 fun e w'=>e=.returned (.string (txt (ansL badW [x,y])))/\More w1 w'):=fun w1 b T h=>Jp7 badW x y w1 b T (by decide) hx hy h
 clear hP0;obtain⟨R,HR⟩:∃R,Hid (txt (ansL badW [x,y])=R):=⟨_,rfl⟩;rw[HR.out]at CD HP;go_enter Tryz.func15,Tryz.ntmps15;go_wp2_with (fail)
 have hb:=Blk.last (w.alloc (.cells #[V x,V y] 52)) #[V x,V y] 2;refine(CD.out _ _ _ (by simpa using hb)).mono ?_;rintro e w1 ⟨rfl,m1⟩;have Hend:Hid (P (.returned (.string R)) w1):=HP.out w1 ((((More.refl _).alloc _ _).alloc _ _).trans m1);clear m1 HP;go_wp2;exact Hend.out

def ranL(c fin val steps:Int)(n:Nat):List UInt8:=if c=0 then ansL (endW fin) [val,steps,n] else ansL badW [c]

theorem Jd2(fin val steps c:Int)(a:Option Addr)(n cp:Nat)(u:Value)(w:World)(hc:B64 c)(hf:c=0->0<=fin/\fin<=2/\B64 val/\B64 steps/\n < 4611686018427387904):
  Calls Tryz.prog 12 #[.agg #[V fin,V val,V steps,.slice a n cp,u],V c] w fun e w'=>e=.returned (.string (txt (ranL c fin val steps n)))/\More w w':=by
 suffices hP:∀P:Ending->World->Prop,(∀w',More w w'->P (.returned (.string (txt (ranL c fin val steps n)))) w')->Calls Tryz.prog 12 #[.agg #[V fin,V val,V steps,.slice a n cp,u],V c] w P from hP _ (fun w' m=>⟨rfl,m⟩)
 intro P hP0;have HP:Hid (∀w',More w w'->P (.returned (.string (txt (ranL c fin val steps n)))) w'):=hP0;clear hP0;by_cases h0:c=0
 ·subst h0
  obtain⟨f0,f2,hv,hst,hn⟩:=hf rfl;have e:ranL 0 fin val steps n=ansL (endW fin) [val,steps,n]:=by simp[ranL]
  rw[e]at HP;have CD:Hid (∀(w1:World) (b:Nat) (T:TypeId),Blk w1 b #[V val,V steps,V n] T->Calls Tryz.prog 10 #[.string (txt (endW fin)),.slice (some ⟨b,0,none⟩) 3 3] w1 fun e w'=>e=.returned (.string (txt (ansL (endW fin) [val,steps,n])))/\More w1 w'):=fun w1 b T h=>Jp8 (endW fin) val steps n w1 b T (by unfold endW;split<;>decide) hv hst (by unfold B64;omega) h
  obtain⟨R,HR⟩:∃R,Hid (txt (ansL (endW fin) [val,steps,n])=R):=⟨_,rfl⟩;rw[HR.out]at CD HP;have hfin:fin=0\/fin=1\/fin=2:=by omega
  have hW:∀i:Int,(i=0\/i=1\/i=2)->True:=fun _ _=>trivial
  clear hv hst hn e f0 f2 hf hc hW HR;obtain⟨W,HW⟩:∃w_:World,Hid (w_=(w.alloc (.cells #[V fin,V val,V steps,.slice a n cp,u] 44)).alloc (.cells #[.string ⟨#[102,117,101,108]⟩,.string ⟨#[100,111,110,101]⟩,.string ⟨#[102,97,117,108,116]⟩] 9)):=⟨_,rfl⟩;have HM:Hid (More w W):=HW.out▸((More.refl _).alloc _ _).alloc _ _;obtain⟨N,hN⟩:∃x,w.heap.size=x:=⟨_,rfl⟩;have HB:Hid (Blk W N #[V fin,V val,V steps,.slice a n cp,u] 44):=hN▸HW.out▸(Blk.last _ _ _).alloc _ _
  have HB2:Hid (Blk W (N+1) #[.string ⟨#[102,117,101,108]⟩,.string ⟨#[100,111,110,101]⟩,.string ⟨#[102,97,117,108,116]⟩] 9):=by
   have q:=Blk.last (w.alloc (.cells #[V fin,V val,V steps,.slice a n cp,u] 44)) #[.string ⟨#[102,117,101,108]⟩,.string ⟨#[100,111,110,101]⟩,.string ⟨#[102,97,117,108,116]⟩] 9;rw[<-HW.out,show(w.alloc (.cells #[V fin,V val,V steps,.slice a n cp,u] 44)).heap.size=N+1 from by simp[hN]]at q;exact q
  obtain⟨S,HS⟩:∃S:World->Prop,Hid (∀w',S w'↔More W w'):=⟨fun w'=>More W w',fun _=>Iff.rfl⟩;have HS0:S W.drew:=(HS.out _).2 (More.refl _).drew;have hne:Nonempty { w' // S w' }:=⟨⟨_,HS0⟩⟩;have k0:∀i:{ w' // S w' },i.val.cell? ⟨N,0,none⟩=some (V fin):=fun i=>(HB.out.more ((HS.out _).1 i.property)).cell rfl
  have k1:∀i:{ w' // S w' },i.val.cell? ⟨N,1,none⟩=some (V val):=fun i=>(HB.out.more ((HS.out _).1 i.property)).cell rfl
  have k2:∀i:{ w' // S w' },i.val.cell? ⟨N,2,none⟩=some (V steps):=fun i=>(HB.out.more ((HS.out _).1 i.property)).cell rfl
  have k3:∀i:{ w' // S w' },i.val.cell? ⟨N,3,none⟩=some (.slice a n cp):=fun i=>(HB.out.more ((HS.out _).1 i.property)).cell rfl
  have k4:∀i:{ w' // S w' },i.val.cell? ⟨N+1,0,none⟩=some (.string ⟨#[102,117,101,108]⟩):=fun i=>(HB2.out.more ((HS.out _).1 i.property)).cell rfl
  have k5:∀i:{ w' // S w' },i.val.cell? ⟨N+1,1,none⟩=some (.string ⟨#[100,111,110,101]⟩):=fun i=>(HB2.out.more ((HS.out _).1 i.property)).cell rfl
  have k6:∀i:{ w' // S w' },i.val.cell? ⟨N+1,2,none⟩=some (.string ⟨#[102,97,117,108,116]⟩):=fun i=>(HB2.out.more ((HS.out _).1 i.property)).cell rfl
  obtain⟨wd,Hwd⟩:∃w_:World,Hid (w_=W.drew):=⟨_,rfl⟩;have Hmd:Hid (More W wd):=Hwd.out▸(More.refl _).drew;rcases hfin with rfl | rfl | rfl
  all_goals
   go_enter Tryz.func12,Tryz.ntmps12;go_wp2_with (fail)
   try simp only[hN]
   rw[<-HW.out];refine J04 (S:=S) [(0,true),(1,true),(2,true),(3,true),(4,true),(5,true),(6,true),(7,true),(8,true),(9,true),(10,true),(11,true),(12,false),(13,false),(14,true)] (by kernel_rfl) (by kernel_rfl) (by kernel_rfl) HS0 ?_;rw[<-Hwd.out]
   iterate 12 (refine J00 rfl (by kernel_rfl) (fun K hK=>?_);go_simp;refine hK _ _ ?_;clear hK K)
   refine J03 rfl (by kernel_rfl) (fun K hK=>?_);go_simp;refine hK _ _ ((HS.out _).2 (Hmd.out.alloc _ _)) ?_;clear hK K;refine J03 rfl (by kernel_rfl) (fun K hK=>?_);go_simp;refine(CD.out _ _ 2 (Blk.last _ _ _)).mono ?_;rintro e w1 ⟨rfl,m1⟩;have Hend:Hid (P (.returned (.string R)) w1):=HP.out w1 (HM.out.trans ((Hmd.out.alloc _ _).trans m1))
   go_simp
   refine hK _ _ ((HS.out _).2 ((Hmd.out.alloc _ _).trans m1)) ?_;clear hK K m1 HP;refine J00 rfl (by kernel_rfl) (fun K hK=>?_);go_simp;refine hK _ _ ?_;clear hK K;refine J06 ?_;clear k0 k1 k2 k3 k4 k5 k6 hne HS0;go_wp2;exact Hend.out
 ·have e:ranL c fin val steps n=ansL badW [c]:=by simp[ranL,h0]
  rw[e]at HP;have CD:Hid (∀(w1:World) (b:Nat) (T:TypeId),Blk w1 b #[V c] T->Calls Tryz.prog 10 #[.string ⟨#[98,97,100]⟩,.slice (some ⟨b,0,none⟩) 1 1] w1 fun e w'=>e=.returned (.string (txt (ansL badW [c])))/\More w1 w'):=fun w1 b T h=>J8w badW c w1 b T (by decide) hc h
  obtain⟨R,HR⟩:∃R,Hid (txt (ansL badW [c])=R):=⟨_,rfl⟩;rw[HR.out]at CD HP;have e0:(c==0)=false:=by simp[h0]
  have e1:(c != 0)=true:=by simp[h0]
  clear hf hc h0 e;go_enter Tryz.func12,Tryz.ntmps12;go_wp2_with (fail)
  have hb:=Blk.last (w.alloc (.cells #[V fin,V val,V steps,.slice a n cp,u] 44)) #[V c] 2;refine(CD.out _ _ _ (by simpa using hb)).mono ?_;rintro e w1 ⟨rfl,m1⟩;have Hend:Hid (P (.returned (.string R)) w1):=HP.out w1 ((((More.refl _).alloc _ _).alloc _ _).trans m1);clear m1 HP;go_wp2;exact Hend.out
def kindV(x:Kd):Array Value:=#[.string (txt x.1),V x.2.1,V x.2.2.1,.string (txt x.2.2.2)]
theorem Jh0{k:Nat}{x:Kd}(h:kindsT[k]?=some x)(w:World):(Instr.index 181 (.agg kindsC.toArray) (V k)).run Tryz.prog w=.ok (.agg (kindV x)) w:=by
 have hk:k < 25:=by
  have:=(List.getElem?_eq_some_iff.1 h).1;simpa[J21]using this
 have key:∀(j:Nat),j < 25->∀y,kindsT[j]?=some y->(Instr.index 181 (.agg kindsC.toArray) (V j)).run Tryz.prog w=.ok (.agg (kindV y)) w:=by
  intro j hj y hy
  match j,hj with
  | 0,_=>obtain rfl:=Option.some.inj hy;show _=_;kernel_rfl
  | 1,_=>obtain rfl:=Option.some.inj hy;show _=_;kernel_rfl
  | 2,_=>obtain rfl:=Option.some.inj hy;show _=_;kernel_rfl
  | 3,_=>obtain rfl:=Option.some.inj hy;show _=_;kernel_rfl
  | 4,_=>obtain rfl:=Option.some.inj hy;show _=_;kernel_rfl
  | 5,_=>obtain rfl:=Option.some.inj hy;show _=_;kernel_rfl
  | 6,_=>obtain rfl:=Option.some.inj hy;show _=_;kernel_rfl
  | 7,_=>obtain rfl:=Option.some.inj hy;show _=_;kernel_rfl
  | 8,_=>obtain rfl:=Option.some.inj hy;show _=_;kernel_rfl
  | 9,_=>obtain rfl:=Option.some.inj hy;show _=_;kernel_rfl
  | 10,_=>obtain rfl:=Option.some.inj hy;show _=_;kernel_rfl
  | 11,_=>obtain rfl:=Option.some.inj hy;show _=_;kernel_rfl
  | 12,_=>obtain rfl:=Option.some.inj hy;show _=_;kernel_rfl
  | 13,_=>obtain rfl:=Option.some.inj hy;show _=_;kernel_rfl
  | 14,_=>obtain rfl:=Option.some.inj hy;show _=_;kernel_rfl
  | 15,_=>obtain rfl:=Option.some.inj hy;show _=_;kernel_rfl
  | 16,_=>obtain rfl:=Option.some.inj hy;show _=_;kernel_rfl
  | 17,_=>obtain rfl:=Option.some.inj hy;show _=_;kernel_rfl
  | 18,_=>obtain rfl:=Option.some.inj hy;show _=_;kernel_rfl
  | 19,_=>obtain rfl:=Option.some.inj hy;show _=_;kernel_rfl
  | 20,_=>obtain rfl:=Option.some.inj hy;show _=_;kernel_rfl
  | 21,_=>obtain rfl:=Option.some.inj hy;show _=_;kernel_rfl
  | 22,_=>obtain rfl:=Option.some.inj hy;show _=_;kernel_rfl
  | 23,_=>obtain rfl:=Option.some.inj hy;show _=_;kernel_rfl
  | 24,_=>obtain rfl:=Option.some.inj hy;show _=_;kernel_rfl
  | j+25,h=>omega
 exact key k hk x h
theorem Jh1:(Tryz.prog.info? 181).map (·.size)=some 100:=by kernel_rfl

theorem Jck(i:Ins)(w:World)(hL:Lai w)(hx:∃x ∈ kindsT,kindK i x):
  Calls Tryz.prog 81 #[.agg #[V i.op,V i.a,V i.b,V i.c,V i.n]] w fun e w'=>∃x ∈ kindsT,kindK i x/\e=.returned (.agg #[.string (txt x.1),V x.2.1,V x.2.2.1,.string (txt x.2.2.2)])/\More w w':=by
 obtain⟨⟨t0,fz,hk⟩,_⟩:=hL
 suffices hP:∀P:Ending->World->Prop,(∀x w',x ∈ kindsT->kindK i x->More w w'->P (.returned (.agg #[.string (txt x.1),V x.2.1,V x.2.2.1,.string (txt x.2.2.2)])) w')->Calls Tryz.prog 81 #[.agg #[V i.op,V i.a,V i.b,V i.c,V i.n]] w P from hP _ (fun x w' a b m=>⟨x,a,b,rfl,m⟩)
 intro P hP0;obtain⟨op,a,b,c,n⟩:=i;have HP:Hid (∀x w',x ∈ kindsT->(x.2.1=op/\(x.2.2.1=0\/x.2.2.1=c))->More w w'->P (.returned (.agg #[.string (txt x.1),V x.2.1,V x.2.2.1,.string (txt x.2.2.2)])) w'):=hP0;have HX:Hid (∃x ∈ kindsT,x.2.1=op/\(x.2.2.1=0\/x.2.2.1=c)):=hx;clear hP0 hx;dsimp only;obtain⟨KA,HKA⟩:∃x,Hid (kindsC.toArray=x):=⟨_,rfl⟩;rw[HKA.out]at hk;have hi:(Tryz.prog.info? 181).map (·.size)=some KA.size:=by rw[<-HKA.out];exact Jh1
 have Hix:Hid (∀(k:Nat) (x:Kd),kindsT[k]?=some x->∀w1,(Instr.index 181 (.agg KA) (V k)).run Tryz.prog w1=.ok (.agg #[.string (txt x.1),V x.2.1,V x.2.2.1,.string (txt x.2.2.2)]) w1):=fun k x h w1=>by rw[<-HKA.out];exact Jh0 h w1
 obtain⟨W,HW⟩:∃w_:World,Hid (w_=(w.alloc (.cells #[V op,V a,V b,V c,V n] 41)).alloc (.cells #[.string ⟨#[]⟩,V 0,V 0,.string ⟨#[]⟩] 147)):=⟨_,rfl⟩;have HmW:Hid (More w W):=HW.out▸((More.refl _).alloc _ _).alloc _ _;have HbI:Hid (Blk W w.heap.size #[V op,V a,V b,V c,V n] 41):=HW.out▸(Blk.last _ _ _).alloc _ _;have HbR:Hid (Blk W (w.heap.size+1) #[.string ⟨#[]⟩,V 0,V 0,.string ⟨#[]⟩] 147):=by rw[HW.out];show Blk _ _ _ _;simpa using Blk.last (w.alloc (.cells #[V op,V a,V b,V c,V n] 41)) #[.string ⟨#[]⟩,V 0,V 0,.string ⟨#[]⟩] 147
 have hkW:W.heap[1]?=some (.cells KA t0 fz):=J1r HmW.out hk;clear hk;go_enter Tryz.func81,Tryz.ntmps81;go_wp2_with (rw[<-HW.out];refine wpList_load_row rfl 181 (.global 1) rfl 1 rfl t0 KA fz _ hkW Tryz.underlying181 rfl hi ?_)
 go_loopg [6] 25 (fun g kv wr=>∃k:Nat,k+g=25/\kv=V k/\Hid (More W wr/\∀(j:Nat) (x:Kd),j < k->kindsT[j]?=some x->¬(x.2.1=op/\(x.2.2.1=0\/x.2.2.1=c))))
 case atStart=>exact⟨0,by omega,rfl,More.refl _,fun j x h=>absurd h (Nat.not_lt_zero _)⟩
 case round=>
  obtain⟨k,hkg,rfl,Hr⟩:=hrel;have i0:wr.cell? ⟨w.heap.size,0,none⟩=some (V op):=(HbI.out.more Hr.out.1).cell rfl;have i3:wr.cell? ⟨w.heap.size,3,none⟩=some (V c):=(HbI.out.more Hr.out.1).cell rfl;have lt1:=(HbR.out.more Hr.out.1).lt;have lt0:=(HbI.out.more Hr.out.1).lt;cases gk with
  | zero=>
   exfalso
   obtain⟨x,hx,f⟩:=HX.out;obtain⟨j,hj,e⟩:=List.getElem_of_mem hx;exact Hr.out.2 j x (by rw[J21]at hj;omega) (by rw[List.getElem?_eq_getElem hj,e]) f
  | succ g=>
   have hk:k < 25:=by omega
   have hki:(k:Int) < 25:=by omega
   have hk63:wrap64 ((k:Int)+1)=(k:Int)+1:=by unfold wrap64;omega
   obtain⟨x,hxk⟩:∃x,kindsT[k]?=some x:=⟨kindsT[k]'(by rw[J21];exact hk),List.getElem?_eq_getElem _⟩;have hix:=Hix.out k x hxk;have Hxk:Hid (x ∈ kindsT):=J9w hxk;have Hyes:Hid ((x.2.1=op/\(x.2.2.1=0\/x.2.2.1=c))->∀w',More w w'->P (.returned (.agg #[.string (txt x.1),V x.2.1,V x.2.2.1,.string (txt x.2.2.2)])) w'):=fun f w' m=>HP.out x w' Hxk.out f m
   have Hno:Hid (¬(x.2.1=op/\(x.2.2.1=0\/x.2.2.1=c))->∀w',More W w'->∃k':Nat,k'+g=25/\Value.int .i64 ((k:Int)+1)=V k'/\Hid (More W w'/\∀(j:Nat) (x:Kd),j < k'->kindsT[j]?=some x->¬(x.2.1=op/\(x.2.2.1=0\/x.2.2.1=c)))):=fun f w' m=>by
    refine⟨k+1,by omega,by simp,m,fun j y hj hy=>?_⟩;by_cases e:j=k
    ·subst e
     rw[hxk]at hy;obtain rfl:=Option.some.inj hy;exact f
    ·exact Hr.out.2 j y (by omega) hy
   obtain⟨xw,xo,xc,xf⟩:=x;dsimp only at hix Hyes Hno;obtain⟨tw,Htw⟩:∃y,Hid (txt xw=y):=⟨_,rfl⟩;obtain⟨tf,Htf⟩:∃y,Hid (txt xf=y):=⟨_,rfl⟩;rw[Htw.out,Htf.out]at hix Hyes;have HmR:Hid (More W wr):=Hr.out.1;clear Hix HP HX Hr hxk Hxk Htw Htf;obtain⟨wk,Hwk⟩:∃w_:World,Hid (w_=wr.alloc (.cells #[.string tw,V xo,V xc,.string tf] 147)):=⟨_,rfl⟩;have Hm2:Hid (More W wk):=HmR.out.trans (Hwk.out▸(More.refl _).alloc _ _)
   have Hmx:Hid (∀v0 v1 v2 v3,More w ((((wr.setCell ⟨w.heap.size+1,0,none⟩ v0).setCell ⟨w.heap.size+1,1,none⟩ v1).setCell ⟨w.heap.size+1,2,none⟩ v2).setCell ⟨w.heap.size+1,3,none⟩ v3)):=fun v0 v1 v2 v3=>
    ((((HmW.out.trans HmR.out).setCell (by show w.heap.size<=w.heap.size+1;omega) _).setCell (by show w.heap.size<=w.heap.size+1;omega) _).setCell (by show w.heap.size<=w.heap.size+1;omega) _).setCell (by show w.heap.size<=w.heap.size+1;omega) _
   have zz:∀j,wr.frozen? ⟨w.heap.size+1,j,none⟩=false:=fun j=>(HbR.out.more HmR.out).frozen j
   have z0:wr.cell? ⟨w.heap.size+1,0,none⟩=some (.string ⟨#[]⟩):=(HbR.out.more HmR.out).cell rfl;have z1:wr.cell? ⟨w.heap.size+1,1,none⟩=some (V 0):=(HbR.out.more HmR.out).cell rfl;have z2:wr.cell? ⟨w.heap.size+1,2,none⟩=some (V 0):=(HbR.out.more HmR.out).cell rfl;have z3:wr.cell? ⟨w.heap.size+1,3,none⟩=some (.string ⟨#[]⟩):=(HbR.out.more HmR.out).cell rfl;by_cases e1:xo=op
   ·subst e1
    by_cases e2:xc=0
    ·subst e2
     have HE:Hid (∀w',More w w'->P (.returned (.agg #[.string tw,V xo,V 0,.string tf])) w'):=Hyes.out ⟨rfl,.inl rfl⟩;clear Hyes Hno;go_wp2;refine bodyPost_ret (by simp[results,Tryz.results81,go_sem, *]) rfl (HE.out _ ?_);exact(Hmx.out _ _ _ _).alloc _ _
    ·by_cases e3:xc=c
     ·subst e3
      have HE:Hid (∀w',More w w'->P (.returned (.agg #[.string tw,V xo,V xc,.string tf])) w'):=Hyes.out ⟨rfl,.inr rfl⟩;clear Hyes Hno;go_wp2;refine bodyPost_ret (by simp[results,Tryz.results81,go_sem, *]) rfl (HE.out _ ?_);exact(Hmx.out _ _ _ _).alloc _ _
     ·have HN:=J02 (Hno.out (by omega) wk Hm2.out)
      have q1:(xc==0)=false:=by simp[e2]
      have q2:(xc==c)=false:=by simp[e3]
      clear Hyes Hno Hmx z0 z1 z2 z3 zz;go_wp2;go_roundg g
      case measure=>omega
      case rel=>rw[<-Hwk.out];exact HN.out
   ·have HN:=J02 (Hno.out (by omega) wk Hm2.out)
    clear Hyes Hno Hmx z0 z1 z2 z3 zz;go_wp2;go_roundg g
    case measure=>omega
    case rel=>rw[<-Hwk.out];exact HN.out
theorem Jic:∀args w,(callFunc 80 args).run Tryz.prog w=.ok (.enter 80 args) w:=enters_of Tryz.func80 (by kernel_rfl) rfl
theorem Jib:∀args w,(callFunc 82 args).run Tryz.prog w=.ok (.enter 82 args) w:=enters_of Tryz.func82 (by kernel_rfl) rfl

theorem Jbk(lg:Int)(sec:Bool)(hb:B64 lg)(w:World)(hL:Lai w):
  Calls Tryz.prog 39 #[.agg #[V lg,.bool sec]] w fun e w'=>e=.returned (.string (txt (rgnL++writL (fun _=>lg) (regF sec))))/\More w w':=by
 suffices hP:∀P:Ending->World->Prop,(∀w',More w w'->P (.returned (.string (txt (rgnL++writL (fun _=>lg) (regF sec))))) w')->Calls Tryz.prog 39 #[.agg #[V lg,.bool sec]] w P from hP _ (fun w' m=>⟨rfl,m⟩)
 intro P hP0;obtain⟨W,HW⟩:∃w_:World,Hid (w_=w.alloc (.cells #[V lg,.bool sec] 76)):=⟨_,rfl⟩;have HmW:Hid (More w W):=HW.out▸(More.refl _).alloc _ _;have HbW:Hid (Blk W w.heap.size #[V lg,.bool sec] 76):=HW.out▸Blk.last _ _ _
 have CW:Hid (∀F,F=txt (regF sec)->Calls Tryz.prog 79 #[.string F,.func (.func 80) #[] #[.pointer (some ⟨w.heap.size,0,none⟩)]] W fun e w'=>∃d:ByteArray,e=.returned (.string d)/\d=txt (writL (fun _=>lg) (regF sec))/\d.size<=200/\More W w'):=fun F hF=>by
  rw[hF];refine(J5k (regF sec) (J5t sec).1 (by rw[(J5t sec).2];omega) (fun _=>lg) (fun _=>hb) 80 (.pointer (some ⟨w.heap.size,0,none⟩)) W (hL.more HmW.out) Jic (fun c w1 m=>Jf1 lg sec w.heap.size c w1 (HbW.out.more m))).mono ?_;rintro e w' ⟨rfl,m⟩;refine⟨_,rfl,rfl,?_,m⟩;rw[J0e];have:=J3i (fun _=>lg) (regF sec);rw[(J5t sec).2]at this;omega
 have HP:Hid (∀(d:ByteArray) w',d=txt (writL (fun _=>lg) (regF sec))->More W w'->P (.returned (.string (txt rgnL++d))) w'):=fun d w' hd m=>by
  have:=hP0 w' (HmW.out.trans m);rw[hd,J1k];exact this
 have b1:W.cell? ⟨w.heap.size,1,none⟩=some (.bool sec):=HbW.out.cell rfl;clear hP0 hL hb;have hmf:∀(fn:Fn) (first cap:Array Value) (w:World),(Instr.makeFunc fn first cap).run Tryz.prog w=.ok (.func fn first cap) w:=fun _ _ _ _=>rfl
 cases sec
 all_goals
  go_enter Tryz.func39,Tryz.ntmps39;go_wp2_with (fail)
  rw[<-HW.out];refine(CW.out _ rfl).mono ?_;rintro e w1 ⟨d,rfl,hd,hz,m1⟩;have HE:=J02 (HP.out d w1 hd m1);clear hd m1 HP CW b1;go_wp2;exact HE.out

theorem Jb4(i:Ins)(hb:B64 i.a/\B64 i.b/\B64 i.c/\B64 i.n)(hx:∃x ∈ kindsT,kindK i x)(w:World)(hL:Lai w):
  Calls Tryz.prog 40 #[.agg #[V i.op,V i.a,V i.b,V i.c,V i.n]] w fun e w'=>∃d:ByteArray,e=.returned (.string d)/\d++txt [10]=txt (lineL i)/\d.size<=240/\More w w':=by
 suffices hP:∀P:Ending->World->Prop,(∀(d:ByteArray) w',d++txt [10]=txt (lineL i)->d.size<=240->More w w'->P (.returned (.string d)) w')->Calls Tryz.prog 40 #[.agg #[V i.op,V i.a,V i.b,V i.c,V i.n]] w P from hP _ (fun d w' h z m=>⟨d,rfl,h,z,m⟩)
 intro P hP0
 have htl:∀c,B64 (tellI i c):=fun c=>by
  unfold tellI
  split
  ·exact hb.1
  ·split
   ·exact hb.2.1
   ·split
    ·exact hb.2.2.1
    ·exact hb.2.2.2
 have CK:Hid (∀w1,Lai w1->Calls Tryz.prog 81 #[.agg #[V i.op,V i.a,V i.b,V i.c,V i.n]] w1 fun e w'=>∃x ∈ kindsT,kindK i x/\e=.returned (.agg #[.string (txt x.1),V x.2.1,V x.2.2.1,.string (txt x.2.2.2)])/\More w1 w'):=fun w1 h=>Jck i w1 h hx
 have CW:Hid (∀b w1 (x:Kd),x ∈ kindsT->Lai w1->Blk w1 b #[V i.op,V i.a,V i.b,V i.c,V i.n] 41->Calls Tryz.prog 79 #[.string (txt x.2.2.2),.func (.func 82) #[] #[.pointer (some ⟨b,0,none⟩)]] w1 fun e w'=>∃d:ByteArray,e=.returned (.string d)/\d=txt (writL (tellI i) x.2.2.2)/\d.size<=231/\More w1 w'):=fun b w1 x hx h hbk=>by
  have hf:=Jeb hx;refine(J5k x.2.2.2 (fun c hc=>(hf.1 c hc).1) (by have:=hf.2;omega) (tellI i) htl 82 (.pointer (some ⟨b,0,none⟩)) w1 h Jib (fun c w2 m=>Jf0 i b c w2 (hbk.more m))).mono ?_;rintro e w' ⟨rfl,m⟩;refine⟨_,rfl,rfl,?_,m⟩;rw[J0e];have:=J3i (tellI i) x.2.2.2;have:=hf.2;omega
 have HP:Hid (∀(x:Kd) (d:ByteArray) w',x ∈ kindsT->kindK i x->d=txt (writL (tellI i) x.2.2.2)->d.size<=231->More w w'->P (.returned (.string (txt x.1++d))) w'):=fun x d w' hx hf hd hz m=>by
  refine hP0 _ w' ?_ ?_ m
  ·rw[hd,J1k,J1k,Jiu hx hf]
  ·have h1:∀x ∈ kindsT,x.1.length<=5:=by decide
   have:=h1 x hx;have e:(txt x.1++d).size=(txt x.1).size+d.size:=by simp
   rw[e,J0e];omega
 have HL:Hid (Lai w):=hL;clear hP0 hL hb hx htl;obtain⟨op,a,b,c,n⟩:=i;dsimp only at CK CW |-;obtain⟨W,HW⟩:∃w_:World,Hid (w_=w.alloc (.cells #[V op,V a,V b,V c,V n] 41)):=⟨_,rfl⟩;have HmW:Hid (More w W):=HW.out▸(More.refl _).alloc _ _;have HbW:Hid (Blk W w.heap.size #[V op,V a,V b,V c,V n] 41):=HW.out▸Blk.last _ _ _;have hmf:∀(fn:Fn) (first cap:Array Value) (w:World),(Instr.makeFunc fn first cap).run Tryz.prog w=.ok (.func fn first cap) w:=fun _ _ _ _=>rfl
 go_enter Tryz.func40,Tryz.ntmps40;go_wp2_with (fail)
 rw[<-HW.out];refine(CK.out W (HL.out.more HmW.out)).mono ?_;rintro e w1 ⟨x,hx,hf,rfl,m1⟩;have Hm1:Hid (More W w1):=m1;have HP1:=J02 (fun d w'=>HP.out x d w' hx hf);have CW1:=J02 (fun w1=>CW.out w.heap.size w1 x hx);have h1:∀x ∈ kindsT,x.1.length<=5:=by decide
 have hz1:(txt x.1).size<=5:=by rw[J0e];exact h1 x hx
 clear m1 CK HP CW hx hf h1;obtain⟨xw,xo,xc,xf⟩:=x;dsimp only at HP1 CW1 hz1 |-;obtain⟨tw,Htw⟩:∃y,Hid (txt xw=y):=⟨_,rfl⟩;obtain⟨tf,Htf⟩:∃y,Hid (txt xf=y):=⟨_,rfl⟩;rw[Htw.out]at HP1 hz1 |-;rw[Htf.out]at CW1 |-;obtain⟨W2,HW2⟩:∃w_:World,Hid (w_=w1.alloc (.cells #[.string tw,V xo,V xc,.string tf] 147)):=⟨_,rfl⟩;have Hm2:Hid (More W W2):=Hm1.out.trans (HW2.out▸(More.refl _).alloc _ _);have Hb2:Hid (Blk W2 w1.heap.size #[.string tw,V xo,V xc,.string tf] 147):=HW2.out▸Blk.last _ _ _;obtain⟨S,HS⟩:∃S:World->Prop,Hid (∀w',S w'↔Blk w' w1.heap.size #[.string tw,V xo,V xc,.string tf] 147):=⟨_,fun _=>Iff.rfl⟩;have HSm:Hid (∀w',More W2 w'->S w'):=fun w' m=>(HS.out _).2 (Hb2.out.more m)
 have HS0:S W2.drew:=HSm.out _ (More.refl _).drew;have hne:Nonempty { w' // S w' }:=⟨⟨_,HS0⟩⟩;have k0:∀i:{ w' // S w' },i.val.cell? ⟨w1.heap.size,0,none⟩=some (.string tw):=fun i=>((HS.out _).1 i.property).cell rfl
 have k3:∀i:{ w' // S w' },i.val.cell? ⟨w1.heap.size,3,none⟩=some (.string tf):=fun i=>((HS.out _).1 i.property).cell rfl
 go_wp2_with (fail)
 rw[<-HW2.out];refine J04 (S:=S) [(0,true),(1,true),(2,true),(3,true),(4,true),(5,false),(6,true),(7,true)] (by kernel_rfl) (by kernel_rfl) (by kernel_rfl) HS0 ?_
 iterate 5 (refine J00 rfl (by kernel_rfl) (fun K hK=>?_);go_simp;refine hK _ _ ?_;clear hK K)
 refine J03 rfl (by kernel_rfl) (fun K hK=>?_);go_simp;refine(CW1.out _ ((HL.out.more (HmW.out.trans Hm2.out)).more (More.refl _).drew) ((HbW.out.more Hm2.out).more (More.refl _).drew)).mono ?_;rintro e w2 ⟨d,rfl,hd,hz,m2⟩;have HS2:S w2:=HSm.out _ ((More.refl _).drew.trans m2);have HE:=J02 (HP1.out d w2 hd hz ((HmW.out.trans Hm2.out).trans ((More.refl _).drew.trans m2)));clear m2 hd HP1 CW1
 go_simp
 refine hK _ _ HS2 ?_;clear hK K;have hsum:¬9223372036854775807 < tw.size+d.size:=by omega
 iterate 2 (refine J00 rfl (by kernel_rfl) (fun K hK=>?_);go_simp;refine hK _ _ ?_;clear hK K)
 refine J06 ?_;clear k0 k3 hne HS0 HS2;go_wp2;exact HE.out
end
end Go.Proofs.YtephohhigbfafaaGreatDoor
