/-
  The texts DvRuns, WdPut, WdGet, LdLay, LdFitting, WdBack, LdTight, LdDoes, LdLike, WdWord, WdPutD, LdMake, TbPrint, DrAnswer, one behind the other, with what is used of them.
-/
import Derived.Test.YtephohhigbfafaaGreatDoorJoined9
import Derived.Test.YtephohhigbfafaaGreatDoorJoined5
import Derived.Test.YtephohhigbfafaaGreatDoorJoined6
import Derived.Test.YtephohhigbfafaaGreatDoorJoined0
import Derived.Deep.LoopGhost
import Derived.Deep.OwnRows
import Derived.Laws.BitsAllLaws
namespace Go.Proofs.YtephohhigbfafaaGreatDoor
section
open Go.RowKit
set_option linter.unusedSimpArgs false
set_option linter.unusedVariables false
set_option maxRecDepth 8000
def ToldR (code fin val steps : Int) (n : Nat) (w : World) (e : Ending) (w' : World) : Prop :=
 ∃ (x1 x2 x3 : Int) (a : Option Addr) (k c : Nat) (u : Value), e = .returned (.tuple #[.agg #[V x1, V x2, V x3, .slice a k c, u], V code]) ∧ (code = 0 → x1 = fin ∧ x2 = val ∧ x3 = steps ∧ k = n) ∧ More w w'

def Wr0 (p : Prg) (m : Mem) (fuel c : Int) : Prop := Wr1 p m [] fuel c
theorem Jai (p : Prg) (l : Loc) (m : Mem) (ml : MLoc) (sa : Option Addr) (sb so sn sc : Nat) (L : List Int) (fuel : Int) (w : World) (hp : PIn w p l) (hfit : p.Fit) (hm : MRaw w m ml) (hwd : ∀ j, j < m.ml → ∀ i, i < m.len j → B64 (m.wd j i)) (hL : L.length = sn) (hcap : sn ≤ sc) (hsin : SIn w sa sb so L) :
  Calls Tryz.prog 13 #[.agg #[.slice l.ra p.rl l.rc, .slice l.ca p.cl l.cc], .slice ml.ma m.ml ml.mc, .slice sa sn sc, V fuel] w fun e w' => ∃ c, Wr1 p m L fuel c ∧ ToldR c (playS p (flatM m) L fuel.toNat).fin (playS p (flatM m) L fuel.toNat).val (playS p (flatM m) L fuel.toNat).steps (playS p (flatM m) L fuel.toNat).seen.length w e w' := by
 by_cases hz : Wr1 p m L fuel 0
 ·obtain ⟨hok, hf, hsok⟩ := Jas hz
  clear hz
  obtain ⟨f, rfl⟩ : ∃ f : Nat, fuel = f := ⟨fuel.toNat, by omega⟩
  obtain ⟨hpos, h6⟩ := J9w hok.1 hok.2
  have hin := hm.in_ h6 (fun i hi => (hpos i hi).2)
  have hn : ∀ i, i < p.cl → B64 (p.ins i).n := fun i hi => (hfit.ins i hi).2.2.2.2
  refine (J88 p l m ml sa sb so sn sc L f w hp hin hok.1 hn hok.2 hwd (by omega) hL hcap hsin hsok).mono ?_
  rintro e w' ⟨v, mm, rfl, ⟨sv, lv, rfl, hs, _⟩, _, _, _, m2⟩
  obtain ⟨a, b, o, c, rfl, _⟩ := hs
  exact ⟨0, .inr (.inr ⟨hok, hf, hsok, rfl⟩), _, _, _, _, _, _, _, rfl, fun _ => ⟨rfl, rfl, rfl, rfl⟩, m2⟩
 ·refine (Jc1 p l m ml sa sb so sn sc L fuel w hp hfit hm hwd hL hcap hsin).mono ?_
  rintro e w' ⟨x1, x2, x3, code, a, n, c, a', n', c', rfl, hw, h0, mm⟩
  exact ⟨code, hw, x1, x2, x3, a, n, c, _, rfl, fun h => absurd (h ▸ hw) hz, mm⟩
theorem Jby (p : Prg) (l : Loc) (m : Mem) (ml : MLoc) (fuel : Int) (w : World) (hp : PIn w p l) (hfit : p.Fit) (hm : MRaw w m ml) (hwd : ∀ j, j < m.ml → ∀ i, i < m.len j → B64 (m.wd j i)) :
  Calls Tryz.prog 11 #[.agg #[.slice l.ra p.rl l.rc, .slice l.ca p.cl l.cc], .slice ml.ma m.ml ml.mc, V fuel] w fun e w' => ∃ c, Wr0 p m fuel c ∧ ToldR c (playI p m fuel.toNat).fin (playI p m fuel.toNat).val (playI p m fuel.toNat).steps (playI p m fuel.toNat).seen.length w e w' := by
 have hnil : ScOk [] := ⟨by decide, fun j c h => by simp at h⟩
 have bad : ∀ code : Int, ¬ code = 0 → Wr0 p m fuel code → ∀ e w', e = .returned (.tuple #[.agg #[V 0, V 0, V 0, .slice none 0 0, .slice none 0 0], V code]) ∧ More w w' → ∃ c, Wr0 p m fuel c ∧ ToldR c (playI p m fuel.toNat).fin (playI p m fuel.toNat).val (playI p m fuel.toNat).steps (playI p m fuel.toNat).seen.length w e w' := by
  rintro code hc hw e w' ⟨rfl, mm⟩
  exact ⟨code, hw, 0, 0, 0, none, 0, 0, _, rfl, fun h => absurd h hc, mm⟩
 by_cases hok : p.Ok 8000 10 ∧ J2g p.rl p.log m.ml m.len
 ·by_cases hf : fuel < 0 ∨ 40000 < fuel
  ·exact (J64 p l ml.ma m.ml ml.mc fuel 3 w (by decide) (fun w2 m2 => J63 p l ml.ma m.ml ml.mc ml.mb ml.mo ml.A m.len ml.C fuel w2 (hp.more m2) hm.hm (hm.lists.more m2) hok.1 hok.2 hf)).mono (bad 3 (by decide) (.inr (.inl ⟨hok, .inl hf, rfl⟩)))
  ·obtain ⟨f, rfl⟩ : ∃ f : Nat, fuel = f := ⟨fuel.toNat, by omega⟩
   obtain ⟨hpos, h6⟩ := J9w hok.1 hok.2
   have hin := hm.in_ h6 (fun i hi => (hpos i hi).2)
   have hn : ∀ i, i < p.cl → B64 (p.ins i).n := fun i hi => (hfit.ins i hi).2.2.2.2
   refine (Jgk p l m ml f w hp hin hok.1 hn hok.2 hwd (by omega)).mono ?_
   rintro e w' ⟨v, mm, rfl, ⟨sv, lv, rfl, hs, _⟩, _, m2⟩
   obtain ⟨a, b, o, c, rfl, _⟩ := hs
   exact ⟨0, .inr (.inr ⟨hok, hf, hnil, rfl⟩), _, _, _, _, _, _, _, rfl, fun _ => ⟨rfl, rfl, rfl, rfl⟩, m2⟩
 ·exact (J64 p l ml.ma m.ml ml.mc fuel 2 w (by decide) (fun w2 m2 => J71 p l ml.ma m.ml ml.mc ml.mb ml.mo ml.A m.len ml.C fuel w2 (hp.more m2) hm.hm (hm.lists.more m2) hok)).mono (bad 2 (by decide) (.inl ⟨hok, rfl⟩))
theorem Jo0 : (Tryz.prog.info? 149).map (fun i => (i.zero, i.size, i.bytes)) = some (some (.int .u32 0), 1, 4) := by kernel_rfl

def Jls (p : Prg) (w : World) (e : Ending) (w' : World) : Prop :=
  ∃ f : Int × Int, PutR p f ∧ More w w' ∧
    ((f.1 = 0 ∧ ∃ g c, e = .returned (.tuple #[.slice (some ⟨g, 0, none⟩) p.cl c, .agg #[V 0, V 0]]) ∧ w.heap.size ≤ g ∧ J7d w' g 0 p.cl (fun j => encW (p.ins j))) ∨
     (¬ f.1 = 0 ∧ e = .returned (.tuple #[.slice none 0 0, .agg #[V f.1, V f.2]])))
structure Kp (Lb : Nat) (ob ob' : Option Nat) (w w' : World) : Prop where
 os : w'.os = w.os
 tape : w'.tape = w.tape
 output : w'.output = w.output
 size : w.heap.size ≤ w'.heap.size
 block : ∀ b, b < w.heap.size → b ≠ Lb → some b ≠ ob → w'.heap[b]? = w.heap[b]?
 own : ob' = ob ∨ ∃ b, ob' = some b ∧ w.heap.size ≤ b
theorem Kp.of {Lb : Nat} {ob : Option Nat} {w w' : World} (m : More w w') : Kp Lb ob ob w w' := ⟨m.os, m.tape, m.output, m.size, fun b h _ _ => m.block b h, .inl rfl⟩
theorem Kp.trans {Lb : Nat} {o1 o2 o3 : Option Nat} {a b c : World} (h : Kp Lb o1 o2 a b) (k : Kp Lb o2 o3 b c) : Kp Lb o1 o3 a c := by
 refine ⟨k.os.trans h.os, k.tape.trans h.tape, k.output.trans h.output, Nat.le_trans h.size k.size, fun x hx h1 h2 => (k.block x (Nat.lt_of_lt_of_le hx h.size) h1 ?_).trans (h.block x hx h1 h2), ?_⟩
 ·rcases h.own with e | ⟨y, e, hy⟩
  ·rw [e]; exact h2
  ·rw [e]; intro q; cases q; omega
 ·rcases k.own with e | ⟨y, e, hy⟩
  ·rw [e]; exact h.own
  ·exact .inr ⟨y, e, Nat.le_trans h.size hy⟩
theorem Kp.blk {Lb : Nat} {ob ob' : Option Nat} {w w' : World} (h : Kp Lb ob ob' w w') {b : Nat} {cs : Array Value} {T : TypeId} (k : Blk w b cs T) (h1 : b ≠ Lb) (h2 : some b ≠ ob) : Blk w' b cs T := (h.block b k.lt h1 h2).trans k
theorem Kp.more {Lb : Nat} {ob ob' : Option Nat} {w0 w w' : World} (h : Kp Lb ob ob' w w') (m : More w0 w) (h1 : w0.heap.size ≤ Lb) (h2 : ∀ b, ob = some b → w0.heap.size ≤ b) : More w0 w' :=
 ⟨h.os.trans m.os, h.tape.trans m.tape, h.output.trans m.output, Nat.le_trans m.size h.size, fun b hb => (h.block b (Nat.lt_of_lt_of_le hb m.size) (by omega) (fun e => by have := h2 b e.symm; omega)).trans (m.block b hb)⟩

def Ld (w : World) (Lb : Nat) (rv cv : Value) (lo : Nat) (L : List Ins) (ob : Option Nat) : Prop :=
 Lb < lo ∧ ∃ va vc, Blk w Lb #[rv, cv, .slice va L.length vc] 109 ∧ w.ownsRow lo 41 5 (.slice va L.length vc) L.length (flatI L) ∧ (Value.slice va L.length vc).ownBlock = ob
theorem Ld.lo {w : World} {Lb : Nat} {rv cv : Value} {lo : Nat} {L : List Ins} {ob : Option Nat} (h : Ld w Lb rv cv lo L ob) : ∀ b, ob = some b → lo ≤ b ∧ b < w.heap.size := by
 obtain ⟨_, va, vc, _, h2, rfl⟩ := h
 exact fun b hb => h2.lt b hb
theorem Ld.more {w w' : World} {Lb : Nat} {rv cv : Value} {lo : Nat} {L : List Ins} {ob : Option Nat} (h : Ld w Lb rv cv lo L ob) (m : More w w') : Ld w' Lb rv cv lo L ob := by
 obtain ⟨h0, va, vc, h1, h2, h3⟩ := h
 exact ⟨h0, va, vc, h1.more m, World.ownsRow.kept h2 (m.grow none) (by cases (Value.slice va L.length vc).ownBlock <;> simp), h3⟩
def Lw (Lb : Nat) (rv cv : Value) (lo : Nat) (L X : List Ins) (ob : Option Nat) (w w' : World) : Prop := ∃ ob', Ld w' Lb rv cv lo (L ++ X) ob' ∧ Kp Lb ob ob' w w'
def Laid (Lb : Nat) (rv cv : Value) (lo : Nat) (L X : List Ins) (ob : Option Nat) (w : World) (e : Ending) (w' : World) : Prop := e = .returned (.tuple #[]) ∧ Lw Lb rv cv lo L X ob w w'
theorem Ld.start {w : World} {Lb : Nat} {rv cv : Value} {lo : Nat} {L : List Ins} {ob : Option Nat} (h : Ld w Lb rv cv lo L ob) : Lw Lb rv cv lo L [] ob w w := ⟨ob, by rw [List.append_nil]; exact h, Kp.of (More.refl _)⟩
theorem Lw.more {w w1 w2 : World} {Lb : Nat} {rv cv : Value} {lo : Nat} {L X : List Ins} {ob : Option Nat} (h : Lw Lb rv cv lo L X ob w w1) (m : More w1 w2) : Lw Lb rv cv lo L X ob w w2 := by
 obtain ⟨o, h1, h2⟩ := h
 exact ⟨o, h1.more m, h2.trans (Kp.of m)⟩
theorem Lw.size {w w1 : World} {Lb : Nat} {rv cv : Value} {lo : Nat} {L X : List Ins} {ob : Option Nat} (h : Lw Lb rv cv lo L X ob w w1) : w.heap.size ≤ w1.heap.size := by
 obtain ⟨o, h1, h2⟩ := h
 exact h2.size
theorem Lw.call {F : Nat} {args : Array Value} {w w1 : World} {Lb : Nat} {rv cv : Value} {lo : Nat} {L X Y : List Ins} {ob : Option Nat} (h : Lw Lb rv cv lo L X ob w w1) (c : ∀ ob1, Ld w1 Lb rv cv lo (L ++ X) ob1 → Calls Tryz.prog F args w1 (Laid Lb rv cv lo (L ++ X) Y ob1 w1)) : Calls Tryz.prog F args w1 (Laid Lb rv cv lo L (X ++ Y) ob w) := by
 obtain ⟨o, h1, h2⟩ := h
 refine (c o h1).mono ?_
 rintro e w' ⟨he, o', h3, h4⟩
 exact ⟨he, o', by rw [← List.append_assoc]; exact h3, h2.trans h4⟩

theorem Jo1 : (Tryz.prog.info? 41).map (fun i => (i.zero, i.size, i.bytes)) = some (some (.agg #[V 0, V 0, V 0, V 0, V 0]), 5, 40) := by kernel_rfl

set_option maxHeartbeats 1000000 in
theorem Jhz (Lb : Nat) (rv cv : Value) (lo : Nat) (L X : List Ins) (ob : Option Nat) (w : World) (h : Ld w Lb rv cv lo L ob) (hlo : lo ≤ w.heap.size) (g m : Nat) (hm : X.length = m) (h1 : 1 ≤ m) (h2 : m ≤ 2) (hL : L.length ≤ 9000) (hX : NewsAt w g X) :
  Calls Tryz.prog 117 #[.pointer (some ⟨Lb, 0, none⟩), .slice (some ⟨g, 0, none⟩) m m] w (Laid Lb rv cv lo L X ob w) := by
 obtain ⟨hlt, va, vc, hB, hO, hob⟩ := h
 obtain ⟨i0, hi, hz0, hz1, hz2⟩ := info_parts Jo1
 have Hi : Hid (Tryz.prog.info? 41 = some i0 ∧ i0.zero = some (.agg #[V 0, V 0, V 0, V 0, V 0]) ∧ i0.size = 5 ∧ i0.bytes = 40) := ⟨hi, hz0, hz1, hz2⟩
 have hc : w.cell? ⟨Lb, 2, none⟩ = some (.slice va L.length vc) := hB.cell rfl
 have HB : Hid (Blk w Lb #[rv, cv, .slice va L.length vc] 109) := hB
 obtain ⟨n, Hn⟩ : ∃ x, Hid (L.length = x) := ⟨_, rfl⟩
 rw [Hn.out] at hO hc hob HB hL
 have HO : Hid (w.ownsRow lo 41 5 (.slice va n vc) n (flatI L)) := hO
 have HX : Hid (NewsAt w g X ∧ X.length = m) := ⟨hX, hm⟩
 have Hob : Hid ((Value.slice va n vc).ownBlock = ob) := hob
 have hne : ∀ b, (Value.slice va n vc).ownBlock = some b → lo ≤ b := fun b hb => (hO.lt b hb).1
 have Hne : Hid (∀ b, (Value.slice va n vc).ownBlock = some b → lo ≤ b) := hne
 clear hi hz0 hz1 hz2 hB hO hX hm hob hne
 go_enter Tryz.func117, Tryz.ntmps117
 go_wp2_with (at_builtin; refine wpList_append_lies _ rfl (.tmp 8) (.tmp 9) 26 rfl lo 41 i0 (.agg #[V 0, V 0, V 0, V 0, V 0]) 5 40 Tryz.underlying26 Hi.out.1 Hi.out.2.1 Hi.out.2.2.1 Hi.out.2.2.2 rfl (by decide) (.slice va n vc) n (flatI L) rfl HO.out ⟨g, 0, none⟩ m m (flatI X) rfl (by rw [J4d, HX.out.2]) HX.out.1 (J7m X) (by omega) (by unfold maxLen; omega) (by omega) hlo w.heap.size rfl ?_; intro g3 cap3 w3 own3 gr3 hat3 hlt3; have HB3 : Hid (Blk w3 Lb #[rv, cv, .slice va n vc] 109) := (gr3.block _ HB.out.lt (fun e => by have := Hne.out _ e.symm; omega)).trans HB.out; have c3 : w3.cell? ⟨Lb, 2, none⟩ = some (.slice va n vc) := HB3.out.cell rfl; have f3 := HB3.out.frozen 2)
 go_end0
 have hg := (own3.lt g3 rfl).1
 have hl : (L ++ X).length = n + m := by rw [List.length_append, Hn.out, HX.out.2]
 refine ⟨rfl, some g3, ⟨hlt, some ⟨g3, 0, none⟩, cap3, ?_, ?_, ?_⟩, gr3.os, gr3.tape, gr3.output, ?_, fun b hb h1 h2 => ?_, ?_⟩
 ·have := HB3.out.put 2 (.slice (some ⟨g3, 0, none⟩) (n + m) cap3)
  rw [hl]
  simpa using this
 ·rw [hl, J4c]
  exact World.ownsRow.kept own3 (J14 _ _ _ _) (.inr (by simp [Value.ownBlock]; omega))
 ·rfl
 ·simpa [World.setCell] using gr3.size
 ·have h3 : (w3.setCell ⟨Lb, 2, none⟩ (.slice (some ⟨g3, 0, none⟩) (n + m) cap3)).heap[b]? = w3.heap[b]? := by
   simp [World.setCell, Array.getElem?_modify, h1.symm]
  rw [h3]
  exact gr3.block b hb (by rw [Hob.out]; exact h2)
 ·rcases hat3 with e | e
  ·left; rw [← Hob.out, e]
  ·exact .inr ⟨g3, rfl, by omega⟩

theorem J7p {Lb : Nat} {rv cv : Value} {lo : Nat} {L X : List Ins} {ob : Option Nat} {w w1 : World} (h : Lw Lb rv cv lo L X ob w w1) (hlo : lo ≤ w.heap.size) (Y : List Ins) (m : Nat) (cs : Array Value) (hY : cs.toList = flatI Y) (hm : Y.length = m) (h1 : 1 ≤ m) (h2 : m ≤ 2) (hL : (L ++ X).length ≤ 9000) :
  Calls Tryz.prog 117 #[.pointer (some ⟨Lb, 0, none⟩), .slice (some ⟨w1.heap.size, 0, none⟩) m m] (w1.alloc (.cells cs 41)) (Laid Lb rv cv lo L (X ++ Y) ob w) := by
 have m1 := (More.refl w1).alloc cs 41
 exact (h.more m1).call fun o h3 => Jhz Lb rv cv lo _ Y o _ h3 (Nat.le_trans hlo (Nat.le_trans h.size m1.size)) _ m hm h1 h2 hL (NewsAt.of (Blk.last _ _ _) hY)

theorem J6e (n : Int) (w : World) : Calls Tryz.prog 115 #[V n] w fun e w' => e = .returned (.bool (decide (N14 n))) ∧ More w w' := by
 by_cases h1 : -8192 ≤ n
 ·have d1 : decide (n ≥ -8192) = true := by simp; omega
  have e : decide (N14 n) = decide (n ≤ 8191) := by unfold N14; simp [h1]
  rw [e]
  go_enter Tryz.func115, Tryz.ntmps115
  go_wp2
  go_ret
  exact ⟨rfl, More.refl _⟩
 ·have d1 : decide (n ≥ -8192) = false := by simp; omega
  have e : decide (N14 n) = false := by unfold N14; simp [h1]
  rw [e]
  go_enter Tryz.func115, Tryz.ntmps115
  go_wp2
  go_ret
  exact ⟨rfl, More.refl _⟩

theorem and13 (n : Int) : bits .and .i64 n 8191 = n % 8192 := by
 have e : (BitVec.ofInt 64 n &&& BitVec.ofInt 64 8191).toNat = (n % ((2 ^ 64 : Nat) : Int)).toNat % 2 ^ 13 := by
  rw [BitVec.toNat_and, BitVec.toNat_ofInt, show (BitVec.ofInt 64 8191).toNat = 2 ^ 13 - 1 by decide, Nat.and_two_pow_sub_one_eq_mod]
 show IntKind.i64.wrap ((BitVec.ofInt 64 n &&& BitVec.ofInt 64 8191).toNat : Nat) = _
 rw [e, IntKind.wrap_i64]
 omega
theorem Jgd {n : Int} (h : N14 n) (a : Int) (f : Nat) : J11 a f n = [⟨1, a, 0, 0, n⟩] := by
 cases f with
 | zero => rfl
 | succ f => unfold J11; rw [if_pos h]

set_option maxHeartbeats 2000000 in
theorem J6y (Lb : Nat) (rv cv : Value) (lo : Nat) (a : Int) (f : Nat) (n : Int) (L : List Ins) (ob : Option Nat) (w : World) (h : Ld w Lb rv cv lo L ob) (hlo : lo ≤ w.heap.size) (hL : L.length + 1 + 2 * f ≤ 9000) (h14 : N14 n) :
  Calls Tryz.prog 136 #[.pointer (some ⟨Lb, 0, none⟩), V a, V n] w (Laid Lb rv cv lo L (J11 a f n) ob w) := by
 rw [Jgd h14]
 have CF : Hid (Calls Tryz.prog 115 #[V n] w fun e w' => e = .returned (.bool true) ∧ More w w') := by
  have := J6e n w
  rw [show decide (N14 n) = true by simp [h14]] at this
  exact this
 have HK : Hid (∀ w1 : World, More w w1 → Calls Tryz.prog 117 #[.pointer (some ⟨Lb, 0, none⟩), .slice (some ⟨w1.heap.size, 0, none⟩) 1 1] (w1.alloc (.cells #[V 1, V a, V 0, V 0, V n] 41)) (Laid Lb rv cv lo L [⟨1, a, 0, 0, n⟩] ob w)) := fun w1 m1 =>
  J7p (h.start.more m1) hlo [⟨1, a, 0, 0, n⟩] 1 _ rfl rfl (by omega) (by omega) (by rw [List.append_nil]; omega)
 clear h hL h14 hlo
 go_enter Tryz.func136, Tryz.ntmps136
 go_wp2_with (fail)
 refine CF.out.mono ?_
 rintro e w1 ⟨rfl, m1⟩
 have HK1 := HK.out w1 m1
 go_wp2_with (fail)
 refine HK1.mono ?_
 rintro e w3 ⟨rfl, hw3⟩
 have Hw3 : Hid (Lw Lb rv cv lo L [⟨1, a, 0, 0, n⟩] ob w w3) := hw3
 clear hw3
 go_wp2
 go_end0
 exact ⟨rfl, Hw3.out⟩

set_option maxHeartbeats 2000000 in
theorem Jbu (Lb : Nat) (rv cv : Value) (lo : Nat) (a : Int) : ∀ (f : Nat) (n : Int) (L : List Ins) (ob : Option Nat) (w : World), Ld w Lb rv cv lo L ob → lo ≤ w.heap.size → L.length + 1 + 2 * f ≤ 9000 → B64 n → -lim f ≤ n → n < lim f →
  Calls Tryz.prog 136 #[.pointer (some ⟨Lb, 0, none⟩), V a, V n] w (Laid Lb rv cv lo L (J11 a f n) ob w) := by
 intro f
 induction f with
 | zero =>
  intro n L ob w h hlo hL hn l1 l2
  have h14 : N14 n := by simp only [lim] at l1 l2; unfold N14; omega
  exact J6y Lb rv cv lo a 0 n L ob w h hlo hL h14
 | succ f ih =>
  intro n L ob w h hlo hL hn l1 l2
  by_cases h14 : N14 n
  ·exact J6y Lb rv cv lo a (f + 1) n L ob w h hlo hL h14
  ·have CF : Hid (Calls Tryz.prog 115 #[V n] w fun e w' => e = .returned (.bool false) ∧ More w w') := by
    have := J6e n w
    rw [show decide (N14 n) = false by simp [h14]] at this
    exact this
   have eL : J11 a (f + 1) n = J11 a f (n / 8192) ++ [⟨27, a, a, 9, 0⟩, ⟨10, a, a, 0, n % 8192⟩] := by rw [J11, if_neg h14]
   rw [eL]
   have HR : Hid (∀ w1 : World, More w w1 → Calls Tryz.prog 136 #[.pointer (some ⟨Lb, 0, none⟩), V a, V (n / 8192)] w1 (Laid Lb rv cv lo L ([] ++ J11 a f (n / 8192)) ob w)) := fun w1 m1 =>
    (h.start.more m1).call fun o h3 => ih _ _ _ _ h3 (Nat.le_trans hlo m1.size) (by rw [List.append_nil]; omega) (by unfold B64 at *; omega) (by simp only [lim] at l1; omega) (by simp only [lim] at l2; omega)
   have HL2 : Hid (∀ w1 : World, Lw Lb rv cv lo L (J11 a f (n / 8192)) ob w w1 → Calls Tryz.prog 117 #[.pointer (some ⟨Lb, 0, none⟩), .slice (some ⟨w1.heap.size, 0, none⟩) 2 2] (w1.alloc (.cells #[V 27, V a, V a, V 9, V 0, V 10, V a, V a, V 0, V (n % 8192)] 41)) (Laid Lb rv cv lo L (J11 a f (n / 8192) ++ [⟨27, a, a, 9, 0⟩, ⟨10, a, a, 0, n % 8192⟩]) ob w)) := fun w1 h1 =>
    J7p h1 hlo [⟨27, a, a, 9, 0⟩, ⟨10, a, a, 0, n % 8192⟩] 2 _ rfl rfl (by omega) (by omega) (by have := (J7x a f (n / 8192)).2; rw [List.length_append]; omega)
   clear h hL hlo l1 l2 ih eL h14
   go_enter Tryz.func136, Tryz.ntmps136
   go_wp2_with (fail)
   refine CF.out.mono ?_
   rintro e w1 ⟨rfl, m1⟩
   have HR1 := HR.out w1 m1
   go_wp2_with (fail)
   refine HR1.mono ?_
   rintro e w2 ⟨rfl, hw2⟩
   have HL3 := HL2.out w2 hw2
   go_wp2_with (fail)
   rw [and13]
   refine HL3.mono ?_
   rintro e w3 ⟨rfl, hw3⟩
   have Hw3 : Hid (Lw Lb rv cv lo L (J11 a f (n / 8192) ++ [⟨27, a, a, 9, 0⟩, ⟨10, a, a, 0, n % 8192⟩]) ob w w3) := hw3
   clear hw3 hw2
   go_wp2
   go_end0
   exact ⟨rfl, Hw3.out⟩

theorem Jbn (Lb : Nat) (rv cv : Value) (lo : Nat) (a n : Int) (L : List Ins) (ob : Option Nat) (w : World) (h : Ld w Lb rv cv lo L ob) (hlo : lo ≤ w.heap.size) (hL : L.length ≤ 8900) (hn : B64 n) :
  Calls Tryz.prog 116 #[.pointer (some ⟨Lb, 0, none⟩), V a, V n] w (Laid Lb rv cv lo L (numL a n) ob w) := by
 have HK : Hid (Calls Tryz.prog 117 #[.pointer (some ⟨Lb, 0, none⟩), .slice (some ⟨w.heap.size, 0, none⟩) 1 1] (w.alloc (.cells #[V 1, V 9, V 0, V 0, V 13] 41)) (Laid Lb rv cv lo L [⟨1, 9, 0, 0, 13⟩] ob w)) :=
  J7p h.start hlo [⟨1, 9, 0, 0, 13⟩] 1 _ rfl rfl (by omega) (by omega) (by rw [List.append_nil]; omega)
 have HP : Hid (∀ w1 : World, Lw Lb rv cv lo L [⟨1, 9, 0, 0, 13⟩] ob w w1 → Calls Tryz.prog 136 #[.pointer (some ⟨Lb, 0, none⟩), V a, V n] w1 (Laid Lb rv cv lo L ([⟨1, 9, 0, 0, 13⟩] ++ J11 a 4 n) ob w)) := fun w1 h1 =>
  h1.call fun o h3 => Jbu Lb rv cv lo a 4 n _ o w1 h3 (Nat.le_trans hlo h1.size) (by rw [List.length_append]; simp; omega) hn (lim4 hn).1 (lim4 hn).2
 clear h hL hn hlo
 go_enter Tryz.func116, Tryz.ntmps116
 go_wp2_with (fail)
 refine HK.out.mono ?_
 rintro e w1 ⟨rfl, h1⟩
 have HP1 := HP.out w1 h1
 clear h1
 go_wp2_with (fail)
 refine HP1.mono ?_
 rintro e w2 ⟨rfl, h2⟩
 have H2 : Hid (Lw Lb rv cv lo L (numL a n) ob w w2) := h2
 clear h2
 go_wp2
 go_end0
 exact ⟨rfl, H2.out⟩

set_option maxHeartbeats 2000000 in
theorem J8q (Lb : Nat) (rv cv : Value) (lo : Nat) (i : Ins) (L : List Ins) (ob : Option Nat) (w : World) (h : Ld w Lb rv cv lo L ob) (hlo : lo ≤ w.heap.size) (hL : L.length ≤ 8800) (hn : B64 i.n) :
  Calls Tryz.prog 84 #[.pointer (some ⟨Lb, 0, none⟩), .agg #[V i.op, V i.a, V i.b, V i.c, V i.n]] w (Laid Lb rv cv lo L (fitL i) ob w) := by
 obtain ⟨op, a, b, c, n⟩ := i
 dsimp only at hn ⊢
 have HF : Hid (∀ w1 : World, Calls Tryz.prog 115 #[V n] w1 fun e w' => e = .returned (.bool (decide (N14 n))) ∧ More w1 w') := fun w1 => J6e n w1
 have HN : Hid (∀ a w1, More w w1 → Calls Tryz.prog 116 #[.pointer (some ⟨Lb, 0, none⟩), V a, V n] w1 (Laid Lb rv cv lo L (numL a n) ob w1)) := fun a w1 m1 => Jbn Lb rv cv lo a n _ ob w1 (h.more m1) (Nat.le_trans hlo m1.size) (by omega) hn
 have Hob : Hid (∀ x, ob = some x → x < w.heap.size) := fun x hx => (h.lo x hx).2
 have hLb : Lb < w.heap.size := by have := h.1; omega
 obtain ⟨W, HW⟩ : ∃ W : World, Hid (W = w.alloc (.cells #[V op, V a, V b, V c, V n] 41)) := ⟨_, rfl⟩
 have HmW : Hid (More w W) := HW.out ▸ (More.refl _).alloc _ _
 have HbW : Hid (Blk W w.heap.size #[V op, V a, V b, V c, V n] 41) := HW.out ▸ Blk.last _ _ _
 have HL1 : Hid (∀ w1 : World, More w w1 → Calls Tryz.prog 117 #[.pointer (some ⟨Lb, 0, none⟩), .slice (some ⟨w1.heap.size, 0, none⟩) 1 1] (w1.alloc (.cells #[V op, V a, V b, V c, V n] 41)) (Laid Lb rv cv lo L [⟨op, a, b, c, n⟩] ob w)) := fun w1 m1 =>
  J7p (h.start.more m1) hlo [⟨op, a, b, c, n⟩] 1 _ rfl rfl (by omega) (by omega) (by rw [List.append_nil]; omega)
 have HL2 : Hid (∀ w1 : World, Lw Lb rv cv lo L (numL 8 n) ob w w1 → Calls Tryz.prog 117 #[.pointer (some ⟨Lb, 0, none⟩), .slice (some ⟨w1.heap.size, 0, none⟩) 1 1] (w1.alloc (.cells #[V 21, V a, V b, V 8, V 0] 41)) (Laid Lb rv cv lo L (numL 8 n ++ [⟨21, a, b, 8, 0⟩]) ob w)) := fun w1 h1 =>
  J7p h1 hlo [⟨21, a, b, 8, 0⟩] 1 _ rfl rfl (by omega) (by omega) (by have := (Jdc 8 n).2; rw [List.length_append]; omega)
 have HB : Hid (∀ w1, More W w1 → Blk w1 w.heap.size #[V op, V a, V b, V c, V n] 41) := fun w1 m1 => HbW.out.more m1
 have HB2 : Hid (∀ w1 w2, More W w1 → Lw Lb rv cv lo L (numL 8 n) ob w1 w2 → Blk w2 w.heap.size #[V op, V a, V b, V c, V n] 41 ∧ Lw Lb rv cv lo L (numL 8 n) ob w w2) := fun w1 w2 m1 ⟨o, h1, k⟩ =>
  ⟨k.blk (HbW.out.more m1) (by omega) (by intro q; have := Hob.out _ q.symm; omega), o, h1, (Kp.of (HmW.out.trans m1)).trans k⟩
 have HK : Hid (∀ a w1 w2, More W w1 → Lw Lb rv cv lo L (numL a n) ob w1 w2 → Lw Lb rv cv lo L (numL a n) ob w w2) := fun a w1 w2 m1 ⟨o, h1, k⟩ => ⟨o, h1, (Kp.of (HmW.out.trans m1)).trans k⟩
 clear h hlo hL hLb
 by_cases h1 : op = 1
 ·subst h1
  have a0 : W.cell? ⟨w.heap.size, 0, none⟩ = some (V 1) := HbW.out.cell rfl
  have a1 : W.cell? ⟨w.heap.size, 1, none⟩ = some (V a) := HbW.out.cell rfl
  have a2 : W.cell? ⟨w.heap.size, 2, none⟩ = some (V b) := HbW.out.cell rfl
  have a3 : W.cell? ⟨w.heap.size, 3, none⟩ = some (V c) := HbW.out.cell rfl
  have a4 : W.cell? ⟨w.heap.size, 4, none⟩ = some (V n) := HbW.out.cell rfl
  by_cases h14 : N14 n
  ·rw [show fitL ⟨1, a, b, c, n⟩ = [⟨1, a, b, c, n⟩] by unfold fitL; rw [if_pos h14]]
   rw [show decide (N14 n) = true by simp [h14]] at HF
   clear h14
   go_enter Tryz.func84, Tryz.ntmps84
   go_wp2_with (fail)
   rw [← HW.out]
   refine (HF.out W).mono ?_
   rintro e w1 ⟨rfl, m1⟩
   have Hb1 : Hid (Blk w1 w.heap.size #[V 1, V a, V b, V c, V n] 41) := HB.out w1 m1
   have c0 : w1.cell? ⟨w.heap.size, 0, none⟩ = some (V 1) := Hb1.out.cell rfl
   have c1 : w1.cell? ⟨w.heap.size, 1, none⟩ = some (V a) := Hb1.out.cell rfl
   have c2 : w1.cell? ⟨w.heap.size, 2, none⟩ = some (V b) := Hb1.out.cell rfl
   have c3 : w1.cell? ⟨w.heap.size, 3, none⟩ = some (V c) := Hb1.out.cell rfl
   have c4 : w1.cell? ⟨w.heap.size, 4, none⟩ = some (V n) := Hb1.out.cell rfl
   have HL3 := HL1.out w1 (HmW.out.trans m1)
   go_wp2_with (fail)
   refine HL3.mono ?_
   rintro e w3 ⟨rfl, hw3⟩
   have Hw3 : Hid (Lw Lb rv cv lo L [⟨1, a, b, c, n⟩] ob w w3) := hw3
   clear hw3
   go_wp2
   go_end0
   exact ⟨rfl, Hw3.out⟩
  ·rw [show fitL ⟨1, a, b, c, n⟩ = numL a n by unfold fitL; rw [if_neg h14]; rfl]
   rw [show decide (N14 n) = false by simp [h14]] at HF
   clear h14
   go_enter Tryz.func84, Tryz.ntmps84
   go_wp2_with (fail)
   rw [← HW.out]
   refine (HF.out W).mono ?_
   rintro e w1 ⟨rfl, m1⟩
   have Hb1 : Hid (Blk w1 w.heap.size #[V 1, V a, V b, V c, V n] 41) := HB.out w1 m1
   have c0 : w1.cell? ⟨w.heap.size, 0, none⟩ = some (V 1) := Hb1.out.cell rfl
   have c1 : w1.cell? ⟨w.heap.size, 1, none⟩ = some (V a) := Hb1.out.cell rfl
   have c2 : w1.cell? ⟨w.heap.size, 2, none⟩ = some (V b) := Hb1.out.cell rfl
   have c3 : w1.cell? ⟨w.heap.size, 3, none⟩ = some (V c) := Hb1.out.cell rfl
   have c4 : w1.cell? ⟨w.heap.size, 4, none⟩ = some (V n) := Hb1.out.cell rfl
   have HL3 := HN.out a w1 (HmW.out.trans m1)
   go_wp2_with (fail)
   refine HL3.mono ?_
   rintro e w3 ⟨rfl, hw3⟩
   have Hw3 : Hid (Lw Lb rv cv lo L (numL a n) ob w w3) := HK.out a w1 w3 m1 hw3
   clear hw3
   go_wp2
   go_end0
   exact ⟨rfl, Hw3.out⟩
 have e1 : (op == 1) = false := by simp [h1]
 by_cases h10 : op = 10
 ·subst h10
  have a0 : W.cell? ⟨w.heap.size, 0, none⟩ = some (V 10) := HbW.out.cell rfl
  have a1 : W.cell? ⟨w.heap.size, 1, none⟩ = some (V a) := HbW.out.cell rfl
  have a2 : W.cell? ⟨w.heap.size, 2, none⟩ = some (V b) := HbW.out.cell rfl
  have a3 : W.cell? ⟨w.heap.size, 3, none⟩ = some (V c) := HbW.out.cell rfl
  have a4 : W.cell? ⟨w.heap.size, 4, none⟩ = some (V n) := HbW.out.cell rfl
  by_cases h14 : N14 n
  ·rw [show fitL ⟨10, a, b, c, n⟩ = [⟨10, a, b, c, n⟩] by unfold fitL; rw [if_pos h14]]
   rw [show decide (N14 n) = true by simp [h14]] at HF
   clear h14
   go_enter Tryz.func84, Tryz.ntmps84
   go_wp2_with (fail)
   rw [← HW.out]
   refine (HF.out W).mono ?_
   rintro e w1 ⟨rfl, m1⟩
   have Hb1 : Hid (Blk w1 w.heap.size #[V 10, V a, V b, V c, V n] 41) := HB.out w1 m1
   have c0 : w1.cell? ⟨w.heap.size, 0, none⟩ = some (V 10) := Hb1.out.cell rfl
   have c1 : w1.cell? ⟨w.heap.size, 1, none⟩ = some (V a) := Hb1.out.cell rfl
   have c2 : w1.cell? ⟨w.heap.size, 2, none⟩ = some (V b) := Hb1.out.cell rfl
   have c3 : w1.cell? ⟨w.heap.size, 3, none⟩ = some (V c) := Hb1.out.cell rfl
   have c4 : w1.cell? ⟨w.heap.size, 4, none⟩ = some (V n) := Hb1.out.cell rfl
   have HL3 := HL1.out w1 (HmW.out.trans m1)
   go_wp2_with (fail)
   refine HL3.mono ?_
   rintro e w3 ⟨rfl, hw3⟩
   have Hw3 : Hid (Lw Lb rv cv lo L [⟨10, a, b, c, n⟩] ob w w3) := hw3
   clear hw3
   go_wp2
   go_end0
   exact ⟨rfl, Hw3.out⟩
  ·rw [show fitL ⟨10, a, b, c, n⟩ = numL 8 n ++ [⟨21, a, b, 8, 0⟩] by unfold fitL; rw [if_neg h14]; rfl]
   rw [show decide (N14 n) = false by simp [h14]] at HF
   clear h14
   go_enter Tryz.func84, Tryz.ntmps84
   go_wp2_with (fail)
   rw [← HW.out]
   refine (HF.out W).mono ?_
   rintro e w1 ⟨rfl, m1⟩
   have Hb1 : Hid (Blk w1 w.heap.size #[V 10, V a, V b, V c, V n] 41) := HB.out w1 m1
   have c0 : w1.cell? ⟨w.heap.size, 0, none⟩ = some (V 10) := Hb1.out.cell rfl
   have c1 : w1.cell? ⟨w.heap.size, 1, none⟩ = some (V a) := Hb1.out.cell rfl
   have c2 : w1.cell? ⟨w.heap.size, 2, none⟩ = some (V b) := Hb1.out.cell rfl
   have c3 : w1.cell? ⟨w.heap.size, 3, none⟩ = some (V c) := Hb1.out.cell rfl
   have c4 : w1.cell? ⟨w.heap.size, 4, none⟩ = some (V n) := Hb1.out.cell rfl
   have HL4 := HN.out 8 w1 (HmW.out.trans m1)
   go_wp2_with (fail)
   refine HL4.mono ?_
   rintro e w2 ⟨rfl, hw2⟩
   obtain ⟨hb2, hw2⟩ := HB2.out w1 w2 m1 hw2
   have Hb2 : Hid (Blk w2 w.heap.size #[V 10, V a, V b, V c, V n] 41) := hb2
   have HL3 := HL2.out w2 hw2
   clear hb2 hw2 c0 c1 c2 c3 c4
   have d0 : w2.cell? ⟨w.heap.size, 0, none⟩ = some (V 10) := Hb2.out.cell rfl
   have d1 : w2.cell? ⟨w.heap.size, 1, none⟩ = some (V a) := Hb2.out.cell rfl
   have d2 : w2.cell? ⟨w.heap.size, 2, none⟩ = some (V b) := Hb2.out.cell rfl
   have d3 : w2.cell? ⟨w.heap.size, 3, none⟩ = some (V c) := Hb2.out.cell rfl
   have d4 : w2.cell? ⟨w.heap.size, 4, none⟩ = some (V n) := Hb2.out.cell rfl
   go_wp2_with (fail)
   refine HL3.mono ?_
   rintro e w3 ⟨rfl, hw3⟩
   have Hw3 : Hid (Lw Lb rv cv lo L (numL 8 n ++ [⟨21, a, b, 8, 0⟩]) ob w w3) := hw3
   clear hw3
   go_wp2
   go_end0
   exact ⟨rfl, Hw3.out⟩
 ·have e10 : (op == 10) = false := by simp [h10]
  rw [J1w h1 h10]
  clear h1 h10
  have a0 : W.cell? ⟨w.heap.size, 0, none⟩ = some (V op) := HbW.out.cell rfl
  have a1 : W.cell? ⟨w.heap.size, 1, none⟩ = some (V a) := HbW.out.cell rfl
  have a2 : W.cell? ⟨w.heap.size, 2, none⟩ = some (V b) := HbW.out.cell rfl
  have a3 : W.cell? ⟨w.heap.size, 3, none⟩ = some (V c) := HbW.out.cell rfl
  have a4 : W.cell? ⟨w.heap.size, 4, none⟩ = some (V n) := HbW.out.cell rfl
  have HL3 := HL1.out W HmW.out
  rw [show W.heap.size = w.heap.size + 1 by rw [HW.out]; simp] at HL3
  clear a0 a1 a2 a3 a4
  go_enter Tryz.func84, Tryz.ntmps84
  go_wp2_with (fail)
  rw [← HW.out]
  refine HL3.mono ?_
  rintro e w3 ⟨rfl, hw3⟩
  have Hw3 : Hid (Lw Lb rv cv lo L [⟨op, a, b, c, n⟩] ob w w3) := hw3
  clear hw3
  go_wp2
  go_end0
  exact ⟨rfl, Hw3.out⟩
structure F1 (w0 w : World) (q : Prg) (Lb : Nat) (rv cv : Value) (k : Nat) (ob : Option Nat) (wr : World) : Prop where
 ld : Ld wr Lb rv cv (w.heap.size + 2) (codeG (fitK q) k) ob
 res : Blk wr w.heap.size #[.slice none 0 0, .slice none 0 0] 28
 room : ∀ j, j < q.cl → ∃ v, Wr wr (w.heap.size + 1) j v
 done : ∀ j, j < k → wr.cell? ⟨w.heap.size + 1, j, none⟩ = some (V (J0f (fitK q) j : Nat))
 more : More w0 wr

theorem F1.start {w0 w : World} {q : Prg} {Lb : Nat} {rv cv : Value} (m : More w0 w) (hB : Blk w Lb #[rv, cv, .slice none 0 0] 109) :
  F1 w0 w q Lb rv cv 0 none ((w.alloc (.cells #[.slice none 0 0, .slice none 0 0] 28)).alloc (.cells (madeCells #[V 0] q.cl) 2)) := by
 have hb : Blk ((w.alloc (.cells #[.slice none 0 0, .slice none 0 0] 28)).alloc (.cells (madeCells #[V 0] q.cl) 2)) (w.heap.size + 1) (madeCells #[V 0] q.cl) 2 := by
  simpa using Blk.last (w.alloc (.cells #[.slice none 0 0, .slice none 0 0] 28)) (madeCells #[V 0] q.cl) 2
 have m2 := ((More.refl w).alloc #[.slice none 0 0, .slice none 0 0] 28).alloc (madeCells #[V 0] q.cl) 2
 exact ⟨⟨by have := hB.lt; omega, none, 0, hB.more m2, World.ownsRow_nil _ _ _ _, rfl⟩, (Blk.last _ _ _).more ((More.refl _).alloc _ _), fun j hj => ⟨_, hb.cell (J7a _ _ _ hj), hb.frozen _⟩, fun j hj => absurd hj (Nat.not_lt_zero _), m.trans m2⟩

theorem F1.mid {w0 w : World} {q : Prg} {Lb : Nat} {rv cv : Value} {k : Nat} {ob : Option Nat} {wr w1 : World} (h : F1 w0 w q Lb rv cv k ob wr) (hL : Lb < w.heap.size) {v : Value}
  (m1 : More (wr.setCell ⟨w.heap.size + 1, k, none⟩ v) w1) : Ld w1 Lb rv cv (w.heap.size + 2) (codeG (fitK q) k) ob := by
 have g1 : wr.grownBy w1 (some (w.heap.size + 1)) := Ja0 (J0p (J0r _ _) _ _) m1
 obtain ⟨q0, va, vc, q1, q2, q3⟩ := h.ld
 refine ⟨q0, va, vc, (g1.block _ q1.lt (by simp; omega)).trans q1, World.ownsRow.kept q2 g1 ?_, q3⟩
 cases hv : (Value.slice va (codeG (fitK q) k).length vc).ownBlock with
 | none => left; rfl
 | some b => right; intro e; have h1 := (q2.lt b hv).1; have := Option.some.inj e; omega
theorem F1.step {w0 w : World} {q : Prg} {Lb : Nat} {rv cv : Value} {k : Nat} {ob : Option Nat} {wr w1 w2 : World} (h : F1 w0 w q Lb rv cv k ob wr) (h0 : w0.heap.size ≤ Lb) (h00 : w0.heap.size ≤ w.heap.size) (hL : Lb < w.heap.size) (hk : k < q.cl)
  (m1 : More (wr.setCell ⟨w.heap.size + 1, k, none⟩ (V (J0f (fitK q) k : Nat))) w1) (hl : Lw Lb rv cv (w.heap.size + 2) (codeG (fitK q) k) (fitL (q.ins k)) ob w1 w2) : ∃ ob', F1 w0 w q Lb rv cv (k + 1) ob' w2 := by
 have hb := h.ld.lo
 have g1 : wr.grownBy w1 (some (w.heap.size + 1)) := Ja0 (J0p (J0r _ _) _ _) m1
 obtain ⟨ob', h1, k2⟩ := hl
 have nb : ∀ b, b < w.heap.size + 2 → some b ≠ ob := fun b hb2 e => by have := (hb b e.symm).1; omega
 have r1 : ∀ j, j < q.cl → ∃ v, Wr w1 (w.heap.size + 1) j v := fun j hj => by
  obtain ⟨v, hv⟩ := h.room j hj
  by_cases c : k = j
  ·subst c; exact ⟨_, (hv.same _).kept (m1.grow none) (by simp)⟩
  ·exact ⟨v, (hv.other _ _ _ (.inr c)).kept (m1.grow none) (by simp)⟩
 have d1 : ∀ j, j < k + 1 → w1.cell? ⟨w.heap.size + 1, j, none⟩ = some (V (J0f (fitK q) j : Nat)) := fun j hj => by
  obtain ⟨v, hv⟩ := h.room j (by omega)
  refine m1.cell ?_
  by_cases c : k = j
  ·subst c; exact (hv.same _).1
  ·rw [World.cell?_setCell_other _ _ _ _ (by intro e; simp only [Addr.mk.injEq] at e; omega)]
   exact h.done j (by omega)
 have g2 : ∀ b, b < w1.heap.size → b ≠ Lb → b < w.heap.size + 2 → w2.heap[b]? = w1.heap[b]? := fun b h1 h2 h3 => k2.block b h1 h2 (nb b h3)
 have hs : w.heap.size + 1 < w1.heap.size := by obtain ⟨v, hv⟩ := r1 k hk; exact J0x hv.1
 refine ⟨ob', h1, ?_, fun j hj => ?_, fun j hj => ?_, ?_⟩
 ·have h2 : Blk w1 w.heap.size #[.slice none 0 0, .slice none 0 0] 28 := (g1.block _ h.res.lt (by simp)).trans h.res
  exact k2.blk h2 (by omega) (nb _ (by omega))
 ·obtain ⟨v, hv⟩ := r1 j hj
  have e := g2 (w.heap.size + 1) hs (by omega) (by omega)
  exact ⟨v, by rw [World.cell?_of_block (a := ⟨w.heap.size + 1, j, none⟩) e]; exact hv.1, by rw [World.frozen?_of_block (a := ⟨w.heap.size + 1, j, none⟩) e]; exact hv.2⟩
 ·rw [World.cell?_of_block (a := ⟨w.heap.size + 1, j, none⟩) (g2 (w.heap.size + 1) hs (by omega) (by omega))]
  exact d1 j hj
 ·exact k2.more ((h.more.setCell (by show w0.heap.size ≤ w.heap.size + 1; omega) _).trans m1) h0 (fun b e => by have := (hb b e).1; omega)

theorem J7j {q : Prg} (hq : q.Ok 8000 10) : ∀ n, n ≤ q.cl → ∀ i ∈ codeG (fitK q) n, i.op = 7 ∨ i.op = 8 → 0 ≤ i.n ∧ i.n < q.cl
 | 0, _, i, hi, _ => by simp [codeG] at hi
 | n + 1, hn, i, hi, h => by
  rcases List.mem_append.1 hi with hi | hi
  ·exact J7j hq n (by omega) i hi h
  ·have hI := hq.2.2.2 n (by omega)
   by_cases c : (q.ins n).op = 1 ∨ (q.ins n).op = 10
   ·have hs : StrI (q.ins n) := by
     unfold InsOk Reg at hI
     rcases c with c | c
     ·simp [c] at hI; exact ⟨by omega, by omega, by omega, by omega⟩
     ·simp [c] at hI; exact ⟨by omega, by omega, by omega, by omega⟩
    exact absurd h (str78 (J5u hs i hi))
   ·have hi : i ∈ fitL (q.ins n) := hi
    rw [J1w (by omega) (by omega)] at hi
    obtain rfl : i = q.ins n := by simpa using hi
    unfold InsOk at hI
    rcases h with h | h
    ·simp [h] at hI; exact hI.2.2.2
    ·simp [h] at hI; exact hI.2.2.2
theorem J5n (q : Prg) : ∀ n, n ≤ J0f (fitK q) n ∧ J0f (fitK q) n ≤ 11 * n
 | 0 => ⟨Nat.le_refl _, Nat.le_refl _⟩
 | n + 1 => by
  have := J5n q n
  have := J9v (q.ins n)
  rw [J1z]; omega

set_option maxHeartbeats 4000000 in
theorem Jfz (q : Prg) (l : Loc) (w0 w : World) (Lb : Nat) (m0 : More w0 w) (h0 : w0.heap.size ≤ Lb) (hp : PIn w0 q l) (hq : q.Ok 8000 10) (h6 : q.cl ≤ 600) (hB : Blk w Lb #[.slice l.ra q.rl l.rc, .slice l.ca q.cl l.cc, .slice none 0 0] 109) (hn : ∀ k, k < q.cl → B64 (q.ins k).n) :
  Calls Tryz.prog 42 #[.pointer (some ⟨Lb, 0, none⟩)] w fun e w' => ∃ lf : Loc, e = .returned (prgV (fitP q) lf) ∧ PIn w' (fitP q) lf ∧ More w0 w' := by
 suffices hP : ∀ P : Ending → World → Prop, (∀ gc cap w', PIn w' (fitP q) ⟨l.ra, l.rb, l.ro, l.rc, some ⟨gc, 0, none⟩, gc, 0, cap⟩ → More w0 w' → P (.returned (.agg #[.slice l.ra q.rl l.rc, .slice (some ⟨gc, 0, none⟩) (J0f (fitK q) q.cl) cap])) w') → Calls Tryz.prog 42 #[.pointer (some ⟨Lb, 0, none⟩)] w P from hP _ (fun gc cap w' h1 h2 => ⟨_, rfl, h1, h2⟩)
 intro P hP0
 have Hl : Hid (Lb < w.heap.size ∧ w0.heap.size ≤ Lb ∧ w0.heap.size ≤ w.heap.size) := ⟨hB.lt, h0, m0.size⟩
 have Hfin : Hid (∀ gc cap w' u, CodeAt w' gc 0 (J0f (fitK q) q.cl) (hardG (fitK q) q.cl) → More w0 w' → w.heap.size < gc → u = (w'.setCell ⟨w.heap.size, 0, none⟩ (.slice l.ra q.rl l.rc)).setCell ⟨w.heap.size, 1, none⟩ (.slice (some ⟨gc, 0, none⟩) (J0f (fitK q) q.cl) cap) → ∀ u', More u u' → P (.returned (.agg #[.slice l.ra q.rl l.rc, .slice (some ⟨gc, 0, none⟩) (J0f (fitK q) q.cl) cap])) u') := by
  intro gc cap w' u hc m hg e u' mu
  have h2 := Hl.out
  have mm : More w0 u' := by
   refine More.trans ?_ mu
   rw [e]; exact (m.setCell (by show w0.heap.size ≤ w.heap.size; omega) _).setCell (by show w0.heap.size ≤ w.heap.size; omega) _
  refine hP0 gc cap u' ⟨hp.hr, fun _ => rfl, hp.regs.more mm, ?_⟩ mm
  refine CodeAt.more mu ?_
  rw [e]
  exact (hc.other (b' := w.heap.size) (by omega) 0 _).other (b' := w.heap.size) (by omega) 1 _
 have hcl0 := hq.2.1
 have hca := hp.hc (by omega)
 rw [hca] at hB
 obtain ⟨ra, Hra⟩ : ∃ x, Hid (l.ra = x) := ⟨_, rfl⟩
 obtain ⟨rl, Hrl⟩ : ∃ x, Hid (q.rl = x) := ⟨_, rfl⟩
 obtain ⟨rc, Hrc⟩ : ∃ x, Hid (l.rc = x) := ⟨_, rfl⟩
 obtain ⟨cb, Hcb⟩ : ∃ x, Hid (l.cb = x) := ⟨_, rfl⟩
 obtain ⟨co, Hco⟩ : ∃ x, Hid (l.co = x) := ⟨_, rfl⟩
 obtain ⟨cc, Hcc⟩ : ∃ x, Hid (l.cc = x) := ⟨_, rfl⟩
 obtain ⟨cl, Hcl⟩ : ∃ x, Hid (q.cl = x) := ⟨_, rfl⟩
 rw [Hra.out, Hrl.out, Hrc.out] at Hfin
 rw [Hra.out, Hrl.out, Hrc.out, Hcb.out, Hco.out, Hcc.out, Hcl.out] at hB
 rw [Hcl.out] at hcl0 h6
 have HC : Hid (∀ w1 : World, More w0 w1 → CodeAt w1 cb co cl q.ins) := fun w1 m1 => by
  have := hp.code.more m1
  rw [Hcb.out, Hco.out, Hcl.out] at this
  exact this
 have Hn : Hid (∀ k, k < cl → B64 (q.ins k).n) := fun k hk => hn k (by rw [Hcl.out]; exact hk)
 have Hst : Hid (∀ k, k ≤ cl → J0f (fitK q) k ≤ 6600) := fun k hk => by have := J5n q k; omega
 have HS0 : Hid (F1 w0 w q Lb (.slice ra rl rc) (.slice (some ⟨cb, co, none⟩) cl cc) 0 none ((w.alloc (.cells #[.slice none 0 0, .slice none 0 0] 28)).alloc (.cells (madeCells #[V 0] cl) 2))) := by
  have := F1.start (q := q) m0 hB
  rw [Hcl.out] at this
  exact this
 have Hq : Hid (q.Ok 8000 10) := hq
 have b1 : w.cell? ⟨Lb, 1, none⟩ = some (.slice (some ⟨cb, co, none⟩) cl cc) := hB.cell rfl
 have hLb := hB.lt
 have ne0 : ¬ w.heap.size = Lb := by omega
 have ne00 : ¬ Lb = w.heap.size := by omega
 have ne01 : ¬ Lb = w.heap.size + 1 := by omega
 have HB : Hid (Blk w Lb #[.slice ra rl rc, .slice (some ⟨cb, co, none⟩) cl cc, .slice none 0 0] 109) := hB
 have hmk := run_make_row' (P := Tryz.prog) 35 2 (V 0) 8 Tryz.underlying35 info2 rfl .i64 .i64 cl (by omega) (by omega)
 clear hP0 hp hq hca hB hn
 go_enter Tryz.func42, Tryz.ntmps42
 go_wp2_with (fail)
 clear hmk
 go_loopg [21] cl (fun g iv wr => ∃ (k : Nat) (ob : Option Nat), k + g = cl ∧ iv = V k ∧ Hid (F1 w0 w q Lb (.slice ra rl rc) (.slice (some ⟨cb, co, none⟩) cl cc) k ob wr))
 case atStart => exact ⟨0, none, by omega, rfl, HS0.out⟩
 case round =>
  obtain ⟨k, ob, hkg, rfl, Hr⟩ := hrel
  clear HS0
  cases gk with
  | zero =>
   obtain rfl : k = cl := by omega
   have hn0 : 1 ≤ J0f (fitK q) k := by have := J5n q k; omega
   have hn1 := Hst.out k (Nat.le_refl _)
   obtain ⟨hl1, va, vc, hB1, hO1, _⟩ := Hr.out.ld
   obtain ⟨gc, cap, hv, _, _⟩ := hO1.form hn0
   cases hv
   have H20 : Hid (H2 (fitK q) q.cl w0 [(Lb, #[.slice ra rl rc, .slice (some ⟨cb, co, none⟩) k cc, .slice (some ⟨gc, 0, none⟩) (J0f (fitK q) k) vc], 109), (w.heap.size, #[.slice none 0 0, .slice none 0 0], 28)] (w.heap.size + 1) gc 0 wr) := by
    have h1 := Hr.out
    have h2 := Hl.out
    have o1 : wr.ownsRow (w.heap.size + 2) 41 5 (.slice (some ⟨gc, 0, none⟩) (J0f (fitK q) k) vc) (J0f (fitK q) k) (flatI (codeG (fitK q) k)) := hO1
    rw [← Hcl.out] at h1 o1 hB1 ⊢
    refine H2.start o1 h1.done (fun x hx => ?_) (by omega) h1.more
    simp only [List.mem_cons, List.not_mem_nil, or_false] at hx
    rcases hx with rfl | rfl
    ·exact ⟨hB1, by dsimp only; omega⟩
    ·exact ⟨h1.res, by dsimp only; omega⟩
   have Hpl : Hid (∀ j, j < J0f (fitK q) k → (mixG (fitK q) q.cl j j).op = 7 ∨ (mixG (fitK q) q.cl j j).op = 8 → 0 ≤ (mixG (fitK q) q.cl j j).n ∧ (mixG (fitK q) q.cl j j).n < k) := fun j hj h => by
    rw [J7t] at h ⊢
    have := J7j Hq.out q.cl (Nat.le_refl _) _ (List.mem_of_getElem? (Jcr (L := codeG (fitK q) q.cl) (j := j) (by rw [Hcl.out]; exact hj) ⟨0, 0, 0, 0, 0⟩)) h
    rw [Hcl.out] at this ⊢
    exact this
   have hgc : w.heap.size + 2 ≤ gc := (hO1.lt gc rfl).1
   have Hend : Hid (∀ bs w' u, H2 (fitK q) q.cl w0 bs (w.heap.size + 1) gc (J0f (fitK q) k) w' → u = (w'.setCell ⟨w.heap.size, 0, none⟩ (.slice ra rl rc)).setCell ⟨w.heap.size, 1, none⟩ (.slice (some ⟨gc, 0, none⟩) (J0f (fitK q) k) vc) → ∀ u', More u u' → P (.returned (.agg #[.slice ra rl rc, .slice (some ⟨gc, 0, none⟩) (J0f (fitK q) k) vc])) u') := fun bs w' u h2 hu => by
    rw [← Hcl.out] at h2 hu ⊢
    exact Hfin.out gc vc w' u h2.end_ h2.more (by omega) hu
   clear hO1 hB1 HC Hfin
   obtain ⟨sn, Hsn⟩ : ∃ x, Hid (J0f (fitK q) k = x) := ⟨_, rfl⟩
   rw [Hsn.out] at hn0 hn1 Hpl Hend H20
   have Hcd : Hid (∀ bs j wr, H2 (fitK q) q.cl w0 bs (w.heap.size + 1) gc j wr → ∀ i, i < sn → InsWr wr gc i (mixG (fitK q) q.cl j i)) := fun bs j wr h2 i hi => h2.code i (by rw [Hcl.out, Hsn.out]; exact hi)
   have Hsd : Hid (∀ bs j wr, H2 (fitK q) q.cl w0 bs (w.heap.size + 1) gc j wr → ∀ i, i < k → wr.cell? ⟨w.heap.size + 1, i, none⟩ = some (V (J0f (fitK q) i : Nat))) := fun bs j wr h2 i hi => h2.starts i (by rw [Hcl.out]; exact hi)
   obtain ⟨bs, Hbs⟩ : ∃ x : List (Nat × Array Value × TypeId), Hid ([(Lb, #[.slice ra rl rc, .slice (some ⟨cb, co, none⟩) k cc, .slice (some ⟨gc, 0, none⟩) sn vc], 109), (w.heap.size, #[.slice none 0 0, .slice none 0 0], 28)] = x) := ⟨_, rfl⟩
   rw [Hbs.out] at H20
   have HbL : Hid (∀ j wr, H2 (fitK q) q.cl w0 bs (w.heap.size + 1) gc j wr → Blk wr Lb #[.slice ra rl rc, .slice (some ⟨cb, co, none⟩) k cc, .slice (some ⟨gc, 0, none⟩) sn vc] 109) := fun j wr h2 => (h2.box _ (by rw [← Hbs.out]; exact List.mem_cons_self)).1
   have HbR : Hid (∀ j wr, H2 (fitK q) q.cl w0 bs (w.heap.size + 1) gc j wr → Blk wr w.heap.size #[.slice none 0 0, .slice none 0 0] 28) := fun j wr h2 => (h2.box _ (by rw [← Hbs.out]; exact List.mem_cons_of_mem _ List.mem_cons_self)).1
   have b2 : wr.cell? ⟨Lb, 2, none⟩ = some (.slice (some ⟨gc, 0, none⟩) sn vc) := (HbL.out 0 wr H20.out).cell rfl
   obtain ⟨wm, rfl⟩ : ∃ wm, wm = wr := ⟨wr, rfl⟩
   go_wp2_with (fail)
   clear b2
   go_loopg [43] sn (fun g2 iv wr2 => ∃ j : Nat, j + g2 = sn ∧ iv = V j ∧ Hid (H2 (fitK q) q.cl w0 bs (w.heap.size + 1) gc j wr2))
   case atStart => exact ⟨0, by omega, rfl, H20.out⟩
   case round =>
    obtain ⟨j, hjg, rfl, Hr2⟩ := hrel
    clear H20
    have HbLr := HbL.out j wr Hr2.out
    have hzL := HbLr.lt
    have b2 : wr.cell? ⟨Lb, 2, none⟩ = some (.slice (some ⟨gc, 0, none⟩) sn vc) := HbLr.cell rfl
    cases gk with
    | zero =>
     obtain rfl : j = sn := by omega
     obtain ⟨wd, Hwd⟩ : ∃ w_ : World, Hid (w_ = wr.drew) := ⟨_, rfl⟩
     have Hmd : Hid (More wr wd) := Hwd.out ▸ (More.refl wr).drew
     obtain ⟨S, HS⟩ : ∃ S : World → Prop, Hid (∀ w', S w' ↔ Blk w' Lb #[.slice ra rl rc, .slice (some ⟨cb, co, none⟩) k cc, .slice (some ⟨gc, 0, none⟩) j vc] 109) := ⟨_, fun _ => Iff.rfl⟩
     have HS1 : S wd := (HS.out _).2 (HbLr.more Hmd.out)
     have HS0 : S wr.drew := Hwd.out ▸ HS1
     have k0 : ∀ i : { w' // S w' }, i.val.cell? ⟨Lb, 0, none⟩ = some (.slice ra rl rc) := fun i => ((HS.out _).1 i.property).cell rfl
     have k2 : ∀ i : { w' // S w' }, i.val.cell? ⟨Lb, 2, none⟩ = some (.slice (some ⟨gc, 0, none⟩) j vc) := fun i => ((HS.out _).1 i.property).cell rfl
     have hne : Nonempty { w' // S w' } := ⟨⟨_, HS0⟩⟩
     have HR := (HbR.out j wr Hr2.out).more Hmd.out
     have r0 : wd.cell? ⟨w.heap.size, 0, none⟩ = some (.slice none 0 0) := HR.cell rfl
     have r1 : wd.cell? ⟨w.heap.size, 1, none⟩ = some (.slice none 0 0) := HR.cell rfl
     have z0 := HR.frozen 0
     have z1 := HR.frozen 1
     have zz := HR.lt
     have He : Hid (∀ u', More ((wd.setCell ⟨w.heap.size, 0, none⟩ (.slice ra rl rc)).setCell ⟨w.heap.size, 1, none⟩ (.slice (some ⟨gc, 0, none⟩) j vc)) u' → P (.returned (.agg #[.slice ra rl rc, .slice (some ⟨gc, 0, none⟩) j vc])) u') := fun u' mu => Hend.out bs wd _ (Hr2.out.far Hmd.out) rfl u' mu
     have HSz : Hid (S ((wd.setCell ⟨w.heap.size, 0, none⟩ (.slice ra rl rc)).setCell ⟨w.heap.size, 1, none⟩ (.slice (some ⟨gc, 0, none⟩) j vc))) := (HS.out _).2 ((((HS.out _).1 HS1).other ne0 _ _).other ne0 _ _)
     clear Hend HbLr HR b2 HS1
     go_wp2_with (fail)
     refine J03 (S := S) [(0, true), (1, true), (2, true), (3, true), (4, true), (5, true), (6, true), (7, true), (8, true), (9, true), (10, false)] (by kernel_rfl) (by kernel_rfl) (by kernel_rfl) HS0 ?_
     rw [← Hwd.out]
     iterate 10 (refine J01 rfl (by kernel_rfl) (fun K hK => ?_); go_simp; refine hK _ _ ?_; clear hK K)
     refine J02 rfl (by kernel_rfl) (fun K hK => ?_)
     go_simp
     refine hK _ _ HSz.out ?_
     refine J07 ?_
     clear hK K k0 k2 hne HS0
     go_wp2
     refine bodyPost_ret (v := .agg #[.slice ra rl rc, .slice (some ⟨gc, 0, none⟩) j vc]) (by simp [results, Tryz.results42, go_sem, *]) rfl (He.out _ ?_)
     exact More.refl _
    | succ g =>
     have hj : j < sn := by omega
     have hji : (j : Int) < sn := by omega
     have hj63 : wrap64 ((j : Int) + 1) = (j : Int) + 1 := by unfold wrap64; omega
     have hI := Hcd.out bs j wr Hr2.out j hj
     have Hpq := Hpl.out j hj
     have Hps : Hid (¬ ((mixG (fitK q) q.cl j j).op = 7 ∨ (mixG (fitK q) q.cl j j).op = 8) → ∀ w', More wr w' → H2 (fitK q) q.cl w0 bs (w.heap.size + 1) gc (j + 1) w') := fun h w' m => Hr2.out.pass m h
     have Hld : Hid ((mixG (fitK q) q.cl j j).op = 7 ∨ (mixG (fitK q) q.cl j j).op = 8 → ∀ w', More wr w' → H2 (fitK q) q.cl w0 bs (w.heap.size + 1) gc (j + 1) (w'.setCell ⟨gc, j * 5 + 4, none⟩ (V (J0f (fitK q) (mixG (fitK q) q.cl j j).n.toNat : Nat)))) := fun h w' m => (Hr2.out.far m).lead h
     obtain ⟨⟨op, a, b, c, n⟩, HI⟩ : ∃ x, Hid (mixG (fitK q) q.cl j j = x) := ⟨_, rfl⟩
     rw [HI.out] at hI Hpq Hps Hld
     obtain ⟨⟨c0, _⟩, ⟨c1, _⟩, ⟨c2, _⟩, ⟨c3, _⟩, ⟨c4, f4⟩⟩ := hI
     dsimp only at c0 c1 c2 c3 c4 Hpq Hps Hld
     have zg := Hr2.out.hi
     have hLg : ¬ Lb = gc := by omega
     have hLg2 : ¬ gc = Lb := by omega
     clear HbLr
     by_cases h78 : op = 7 ∨ op = 8
     ·have hpq := Hpq h78
      obtain ⟨n0, n1⟩ := hpq
      obtain ⟨nn, rfl⟩ := Int.eq_ofNat_of_zero_le n0
      have hnk : (nn : Int) < (k : Int) := n1
      have hsN := Hsd.out bs j wr Hr2.out nn (by omega)
      have zs := J0x hsN
      dsimp only at zs
      have Hn2 : Hid (∀ w', More wr w' → H2 (fitK q) q.cl w0 bs (w.heap.size + 1) gc (j + 1) (w'.setCell ⟨gc, j * 5 + 4, none⟩ (V (J0f (fitK q) nn : Nat)))) := fun w' m' => Hld.out h78 w' m'
      obtain ⟨sN, HsN⟩ : ∃ x, Hid (J0f (fitK q) nn = x) := ⟨_, rfl⟩
      rw [HsN.out] at hsN Hn2
      have ne1 : ¬ wr.heap.size = gc := by omega
      have ne2 : ¬ gc = wr.heap.size := by omega
      clear Hps Hld Hpq n0 n1
      have h7c : (op == 7) = true ∨ ((op == 7) = false ∧ (op == 8) = true) := by rcases h78 with rfl | rfl <;> simp
      clear h78
      rcases h7c with e7 | ⟨e7, e8⟩
      all_goals
       obtain ⟨W, HW⟩ : ∃ w_ : World, Hid (w_ = wr.alloc (.cells #[V op, V a, V b, V c, V nn] 41)) := ⟨_, rfl⟩
       have HmW : Hid (More wr W) := HW.out ▸ (More.refl _).alloc _ _
       have c44 := (HW.out ▸ Blk.last _ _ _ : Blk W wr.heap.size #[V op, V a, V b, V c, V nn] 41).cell (j := 4) rfl
       obtain ⟨wd, Hwd⟩ : ∃ w_ : World, Hid (w_ = W.drew) := ⟨_, rfl⟩
       have Hmd : Hid (More W wd) := Hwd.out ▸ (More.refl W).drew
       obtain ⟨S, HS⟩ : ∃ S : World → Prop, Hid (∀ w', S w' ↔ (w'.cell? ⟨Lb, 2, none⟩ = some (.slice (some ⟨gc, 0, none⟩) sn vc) ∧ w'.cell? ⟨wr.heap.size, 4, none⟩ = some (V nn) ∧ w'.cell? ⟨w.heap.size + 1, nn, none⟩ = some (V sN))) := ⟨_, fun _ => Iff.rfl⟩
       have HS1 : S wd := (HS.out _).2 ⟨(HmW.out.trans Hmd.out).cell b2, Hmd.out.cell c44, (HmW.out.trans Hmd.out).cell hsN⟩
       have HS0 : S W.drew := Hwd.out ▸ HS1
       have k0 : ∀ i : { w' // S w' }, i.val.cell? ⟨Lb, 2, none⟩ = some (.slice (some ⟨gc, 0, none⟩) sn vc) := fun i => ((HS.out _).1 i.property).1
       have k1 : ∀ i : { w' // S w' }, i.val.cell? ⟨wr.heap.size, 4, none⟩ = some (V nn) := fun i => ((HS.out _).1 i.property).2.1
       have k2 : ∀ i : { w' // S w' }, i.val.cell? ⟨w.heap.size + 1, nn, none⟩ = some (V sN) := fun i => ((HS.out _).1 i.property).2.2
       have hne : Nonempty { w' // S w' } := ⟨⟨_, HS0⟩⟩
       have x4 : wd.cell? ⟨gc, j * 5 + 4, none⟩ = some (V nn) := (HmW.out.trans Hmd.out).cell c4
       have y4 : wd.frozen? ⟨gc, j * 5 + 4, none⟩ = false := by
        rw [World.frozen?_of_block (a := ⟨gc, j * 5 + 4, none⟩) ((HmW.out.trans Hmd.out).block gc zg)]; exact f4
       have HSz : Hid (S (wd.setCell ⟨gc, j * 5 + 4, none⟩ (V sN))) := (HS.out _).2 (by
        have h1 := (HS.out _).1 HS1
        refine ⟨?_, ?_, ?_⟩
        ·rw [World.cell?_setCell_other _ _ _ _ (by intro e; simp only [Addr.mk.injEq] at e; omega)]; exact h1.1
        ·rw [World.cell?_setCell_other _ _ _ _ (by intro e; simp only [Addr.mk.injEq] at e; omega)]; exact h1.2.1
        ·rw [World.cell?_setCell_other _ _ _ _ (by intro e; simp only [Addr.mk.injEq] at e; omega)]; exact h1.2.2)
       clear HS1 Hcd Hsd HbL HbR Hpl Hend hn0 hn1 hLg hLg2 hcl0 h6
       go_wp2_with (fail)
       rw [← HW.out]
       refine J03 (S := S) [(0, true), (1, true), (2, true), (3, true), (4, true), (5, true), (6, true), (7, true), (8, true), (9, true), (10, true), (11, true), (12, false)] (by kernel_rfl) (by kernel_rfl) (by kernel_rfl) HS0 ?_
       rw [← Hwd.out]
       iterate 12 (refine J01 rfl (by kernel_rfl) (fun K hK => ?_); go_simp; refine hK _ _ ?_; clear hK K)
       refine J02 rfl (by kernel_rfl) (fun K hK => ?_)
       go_simp
       refine hK _ _ HSz.out ?_
       refine J07 ?_
       clear hK K k0 k1 k2 hne HS0
       go_wp2
       go_roundg g
       case measure => omega
       case rel => exact ⟨j + 1, by omega, by simp [hj63], Hn2.out wd (HmW.out.trans Hmd.out)⟩
     ·have e7 : (op == 7) = false := by simp; omega
      have e8 : (op == 8) = false := by simp; omega
      have Hn2 : Hid (∀ w', More wr w' → H2 (fitK q) q.cl w0 bs (w.heap.size + 1) gc (j + 1) w') := Hps.out h78
      clear h78 Hps Hld Hpq Hcd Hsd HbL HbR Hpl Hend hn0 hn1 hLg hLg2 hcl0 h6
      go_wp2
      go_roundg g
      case measure => omega
      case rel => exact ⟨j + 1, by omega, by simp [hj63], Hn2.out _ ((More.refl _).alloc _ _)⟩
  | succ g =>
   have hk : k < cl := by omega
   have hki : (k : Int) < cl := by omega
   have hk63 : wrap64 ((k : Int) + 1) = (k : Int) + 1 := by unfold wrap64; omega
   obtain ⟨q0, q1, q2, q3, q4⟩ := HC.out wr Hr.out.more k hk
   obtain ⟨_, va, vc, hB1, _, _⟩ := Hr.out.ld
   have b2 : wr.cell? ⟨Lb, 2, none⟩ = some (.slice va (J0f (fitK q) k) vc) := hB1.cell rfl
   have hst0 := Hst.out k (by omega)
   have HS : Hid (∀ w1 w2 : World, More (wr.setCell ⟨w.heap.size + 1, k, none⟩ (V (J0f (fitK q) k : Nat))) w1 → Lw Lb (.slice ra rl rc) (.slice (some ⟨cb, co, none⟩) cl cc) (w.heap.size + 2) (codeG (fitK q) k) (fitL (q.ins k)) ob w1 w2 → ∃ ob', F1 w0 w q Lb (.slice ra rl rc) (.slice (some ⟨cb, co, none⟩) cl cc) (k + 1) ob' w2) := fun w1 w2 m1 hl => Hr.out.step Hl.out.2.1 Hl.out.2.2 Hl.out.1 (by rw [Hcl.out]; exact hk) m1 hl
   have HD : Hid (∀ w1, More (wr.setCell ⟨w.heap.size + 1, k, none⟩ (V (J0f (fitK q) k : Nat))) w1 → Ld w1 Lb (.slice ra rl rc) (.slice (some ⟨cb, co, none⟩) cl cc) (w.heap.size + 2) (codeG (fitK q) k) ob) := fun w1 m1 => Hr.out.mid Hl.out.1 m1
   have HF : Hid (∀ w1, Ld w1 Lb (.slice ra rl rc) (.slice (some ⟨cb, co, none⟩) cl cc) (w.heap.size + 2) (codeG (fitK q) k) ob → w.heap.size + 2 ≤ w1.heap.size → Calls Tryz.prog 84 #[.pointer (some ⟨Lb, 0, none⟩), .agg #[V (q.ins k).op, V (q.ins k).a, V (q.ins k).b, V (q.ins k).c, V (q.ins k).n]] w1 (Laid Lb (.slice ra rl rc) (.slice (some ⟨cb, co, none⟩) cl cc) (w.heap.size + 2) (codeG (fitK q) k) (fitL (q.ins k)) ob w1)) := fun w1 h1 h2 => J8q Lb _ _ _ (q.ins k) _ ob w1 h1 h2 (by show J0f (fitK q) k ≤ 8800; omega) (Hn.out k hk)
   obtain ⟨rv, hrv, hfz⟩ := Hr.out.room k (by rw [Hcl.out]; exact hk)
   have hz1 : w.heap.size + 1 < wr.heap.size := J0x hrv
   have n1 : ¬ wr.heap.size = w.heap.size + 1 := by omega
   have n2 : ¬ w.heap.size + 1 = wr.heap.size := by omega
   have hzL : Lb < wr.heap.size := by omega
   have n3 : ¬ wr.heap.size = Lb := by omega
   have n4 : ¬ Lb = wr.heap.size := by omega
   obtain ⟨st, Hstk⟩ : ∃ x, Hid (J0f (fitK q) k = x) := ⟨_, rfl⟩
   rw [Hstk.out] at b2 hst0 HS HD
   obtain ⟨⟨op, a, b, c, n⟩, HI⟩ : ∃ x, Hid (q.ins k = x) := ⟨_, rfl⟩
   rw [HI.out] at q0 q1 q2 q3 q4 HF HS
   dsimp only at q0 q1 q2 q3 q4 HF HS
   clear hB1
   obtain ⟨w1, Hw1⟩ : ∃ w_ : World, Hid (w_ = (wr.setCell ⟨w.heap.size + 1, k, none⟩ (V (st : Nat))).alloc (.cells #[V op, V a, V b, V c, V n] 41)) := ⟨_, rfl⟩
   have Hm1 : Hid (More (wr.setCell ⟨w.heap.size + 1, k, none⟩ (V (st : Nat))) w1) := Hw1.out ▸ (More.refl _).alloc _ _
   have Hz1 : Hid (w.heap.size + 2 ≤ w1.heap.size) := by
    have := Hm1.out.size
    show _ ≤ _
    simp [World.setCell] at this
    omega
   have HF1 := HF.out w1 (HD.out w1 Hm1.out) Hz1.out
   go_wp2_with (fail)
   rw [← Hw1.out]
   refine HF1.mono ?_
   rintro e w2 ⟨rfl, hw2⟩
   obtain ⟨ob', hr2⟩ := HS.out w1 w2 Hm1.out hw2
   have Hr2 : Hid (F1 w0 w q Lb (.slice ra rl rc) (.slice (some ⟨cb, co, none⟩) cl cc) (k + 1) ob' w2) := hr2
   clear hr2 hw2 q0 q1 q2 q3 q4 b2 hrv hfz
   go_wp2
   go_roundg g
   case measure => omega
   case rel => exact ⟨k + 1, ob', by omega, by first | rfl | simp, Hr2.out⟩
end
section
open Go.RowKit
set_option linter.unusedSimpArgs false
set_option linter.unusedVariables false
section
variable {p h : Prg} {st : Nat → Nat} {B : Nat → List Ins} {X : Int} {l : KV} {lab : Nat → Nat → Bool}

end
section
variable {p h : Prg} {st : Nat → Nat} {B : Nat → List Ins} {X : Int} {l : KV} {m : Mem} {s t : St}

end
section
variable {p h : Prg} {st : Nat → Nat} {B : Nat → List Ins} {X : Int}
theorem Blo.from_ (S : Blo p h st B X) : ∀ (n : Nat), n ≤ p.cl → ∀ q, q < st n → ∃ k o, k < n ∧ o < (B k).length ∧ q = st k + o
 | 0, _, q, hq => by rw [S.s0] at hq; omega
 | n + 1, hn, q, hq => by
  have e := S.next n (by omega)
  by_cases c : q < st n
  ·obtain ⟨k, o, h1, h2, h3⟩ := S.from_ n (by omega) q c
   exact ⟨k, o, by omega, h2, h3⟩
  ·exact ⟨n, q - st n, by omega, by omega, by omega⟩
end
theorem Jm2 {rl : Nat} {log : Nat → Int} {cl : Nat} {a n : Int} (ha : Reg 10 a) (hn : B64 n) : ∀ x ∈ numL a n, InsOk rl log cl 10 x ∧ N14 x.n := by
 intro x hx
 unfold numL at hx
 rcases List.mem_cons.1 hx with rfl | hx
 ·exact ⟨by unfold InsOk Reg; simp, by unfold N14; simp⟩
 ·exact ⟨J7w (P := fun x => InsOk rl log cl 10 x) (fun n => by unfold InsOk; simp; exact ha) (by unfold InsOk; simp; exact ⟨ha, by unfold Reg; omega⟩) (fun n => by unfold InsOk; simp; exact ha) 4 n x hx, J9b a 4 n (lim4 hn).1 (lim4 hn).2 x hx⟩
theorem Jhf {rl : Nat} {log : Nat → Int} {cl : Nat} {i : Ins} (hI : InsOk rl log cl 10 i) (hn : B64 i.n) (hN : ¬ i.op = 1 → ¬ i.op = 10 → N14 i.n) : ∀ x ∈ fitL i, InsOk rl log cl 10 x ∧ N14 x.n := by
 intro x hx
 unfold fitL at hx
 split at hx
 ·simp at hx; subst hx; exact ⟨hI, by assumption⟩
 split at hx
 ·rename_i q
  unfold InsOk at hI
  rw [if_pos q] at hI
  exact Jm2 hI.1 hn x hx
 split at hx
 ·rename_i q
  unfold InsOk at hI
  simp [q] at hI
  rcases List.mem_append.1 hx with hx | hx
  ·exact Jm2 (by unfold Reg; omega) hn x hx
  ·simp at hx; subst hx
   exact ⟨by unfold InsOk; simp; exact ⟨hI.1, hI.2.1, by unfold Reg; omega⟩, by unfold N14; simp⟩
 ·rename_i q1 q2
  simp at hx; subst hx; exact ⟨hI, hN q1 q2⟩

section
variable {p : Prg}
theorem Jam : ∀ n, n ≤ p.cl → n ≤ stF p n ∧ stF p n ≤ 13 * n
 | 0, _ => ⟨Nat.le_refl _, Nat.le_refl _⟩
 | n + 1, h => by
  have := Jam n (by omega)
  have := fitB_len (p := p) (k := n)
  rw [Jf4 (by omega)]
  omega
theorem Jem (ok : p.Ok 200 8) (hf : p.Fit) (j : Nat) (hj : j < (fitP (hardP p)).cl) : InsOk p.rl p.log (fitP (hardP p)).cl 10 ((fitP (hardP p)).ins j) ∧ N14 ((fitP (hardP p)).ins j).n := by
 have S := Jmk ok hf
 rw [S.cl] at hj
 obtain ⟨k, o, hk, ho, rfl⟩ := S.from_ p.cl (Nat.le_refl _) j hj
 have hi := ok.2.2.2 k hk
 have hn : B64 (p.ins k).n := (hf.ins k hk).2.2.2.2
 have e := List.getElem?_eq_getElem ho
 rw [Jhg ok hk o _ e]
 have hx := List.getElem_mem ho
 generalize (fitB p k)[o] = x at hx
 have c200 := ok.2.2.1
 by_cases m : (p.ins k).op = 3 ∨ (p.ins k).op = 4
 ·rw [J77 m] at hx
  have hr : Reg 8 (p.ins k).a ∧ Reg 8 (p.ins k).b ∧ Rgn p.rl (p.ins k).c := by unfold InsOk at hi; rcases m with m | m <;> simpa [m] using hi
  obtain ⟨ra, rb, rc⟩ := hr
  have hlog := ok.1.2 (p.ins k).c.toNat (by unfold Rgn at rc; omega)
  have h64 : 1 ≤ J0g (p.log (p.ins k).c.toNat) ∧ J0g (p.log (p.ins k).c.toNat) ≤ 64 := J2f (by omega)
  unfold Reg at ra rb
  rcases List.mem_append.1 hx with hx | hx
  ·exact Jhf (i := ⟨10, 8, (p.ins k).b, 0, (p.ins k).n⟩) (by unfold InsOk Reg; simp; omega) hn (fun _ q => absurd rfl q) x hx
  ·simp at hx
   rcases hx with rfl | rfl
   ·exact ⟨by unfold InsOk Reg; simp; omega, by unfold N14; dsimp only; omega⟩
   ·refine ⟨?_, by unfold N14; simp⟩
    unfold InsOk Reg
    rcases m with m | m <;> simp [m] <;> exact ⟨by omega, rc⟩
 by_cases w : (p.ins k).op = 7 ∨ (p.ins k).op = 8
 ·rw [J9u w] at hx
  simp at hx
  subst hx
  have hp : Plc p.cl (p.ins k).n := by unfold InsOk at hi; rcases w with w | w <;> simp [w] at hi <;> simp [hi]
  unfold Plc at hp
  have hlt := S.lt (k := (p.ins k).n.toNat) (o := 0) (by omega) fitB_len.1
  have := (Jam (p := p) (p.ins k).n.toNat (by omega)).2
  refine ⟨?_, by unfold N14; dsimp only; omega⟩
  unfold InsOk Reg at hi ⊢
  unfold Plc at hi ⊢
  rcases w with w | w <;> simp [w] at hi ⊢ <;> omega
 ·rw [J4b m w] at hx
  refine Jhf (Jet hi (fun _ _ => rfl) w) hn (fun q1 q10 => ?_) x hx
  unfold InsOk at hi
  unfold N14
  have wd : ∀ c : Int, Rgn p.rl c → Wrd p.log c (p.ins k).n → -8192 ≤ (p.ins k).n ∧ (p.ins k).n ≤ 8191 := fun c h1 h2 => by
   unfold Rgn at h1
   unfold Wrd at h2
   have h3 := ok.1.2 c.toNat (by omega)
   have := (J2f (k := (p.log c.toNat).toNat) (by omega)).2
   omega
  rw [if_neg q1] at hi
  by_cases q2 : (p.ins k).op = 2
  ·rw [if_pos q2] at hi; omega
  rw [if_neg q2, if_neg (by omega), if_neg (by omega)] at hi
  by_cases q5 : (p.ins k).op = 5
  ·rw [if_pos q5] at hi; exact wd _ hi.2.2.1 hi.2.2.2
  rw [if_neg q5] at hi
  by_cases q6 : (p.ins k).op = 6
  ·rw [if_pos q6] at hi; exact wd _ hi.2.2.1 hi.2.2.2
  rw [if_neg q6, if_neg (by omega), if_neg (by omega)] at hi
  by_cases q9 : (p.ins k).op = 9
  ·rw [if_pos q9] at hi; omega
  rw [if_neg q9, if_neg q10] at hi
  by_cases q11 : (p.ins k).op = 11
  ·rw [if_pos q11] at hi; omega
  rw [if_neg q11] at hi
  by_cases q12 : (p.ins k).op = 12
  ·rw [if_pos q12] at hi; omega
  ·rw [if_neg q12] at hi; omega
theorem Jlx (ok : p.Ok 200 8) (hf : p.Fit) : (fitP (hardP p)).Ok 8000 10 := by
 have h1 := Jam p.cl (Nat.le_refl _)
 have h2 := ok.2.1
 have h3 := ok.2.2.1
 have e : (fitP (hardP p)).cl = stF p p.cl := rfl
 exact ⟨ok.1, by rw [e]; omega, by rw [e]; omega, fun i hi => (Jem ok hf i hi).1⟩
theorem Jjv (ok : p.Ok 200 8) (hf : p.Fit) : ∀ j, j < (fitP (hardP p)).cl → N14 ((fitP (hardP p)).ins j).n := fun j hj => (Jem ok hf j hj).2

end
end
section
open Go.RowKit
set_option linter.unusedSimpArgs false
set_option linter.unusedVariables false
set_option maxRecDepth 8000
theorem Jo9 (x : Int) (k : Nat) (m n : Int) (h : W32 x) (hk : k ≤ 14) (em : m = ((2 ^ k - 1 : Nat) : Int)) (en : n = ((2 ^ k : Nat) : Int)) : bits .and .u32 x m = x % n := by
 unfold W32 at h
 obtain ⟨X, rfl⟩ := Int.eq_ofNat_of_zero_le h.1
 have h2 : 2 ^ k ≤ 2 ^ 14 := Nat.pow_le_pow_right (by decide) hk
 subst em en
 rw [u32_and_nat X _ (by omega) (by omega), Nat.and_two_pow_sub_one_eq_mod]
 rfl
theorem or32 (x y : Int) (k X Y : Nat) (hx : x = ((2 ^ k * X : Nat) : Int)) (hy : y = (Y : Int)) (h1 : 2 ^ k * X < 4294967296) (h2 : Y < 2 ^ k) (hk : k ≤ 30) : bits .or .u32 x y = x + y := by
 have h3 : 2 ^ k ≤ 2 ^ 30 := Nat.pow_le_pow_right (by decide) hk
 subst hx hy
 rw [u32_or_nat _ _ h1 (by omega), ← Nat.two_pow_add_eq_or_of_lt h2]
 push_cast
 rfl

theorem Jjk {op a b c n : Int} (s : Small ⟨op, a, b, c, n⟩) (hn : N14 n) :
  bits BinOp.or IntKind.u32 (bits BinOp.or IntKind.u32 (bits BinOp.or IntKind.u32 (bits BinOp.or IntKind.u32 (op % 4294967296 * 67108864 % 4294967296) (a % 4294967296 * 4194304 % 4294967296)) (b % 4294967296 * 262144 % 4294967296)) (c % 4294967296 * 16384 % 4294967296)) (bits BinOp.and IntKind.u32 (n % 4294967296) 16383) = encW ⟨op, a, b, c, n⟩ := by
 obtain ⟨⟨o0, o1⟩, ⟨a0, a1⟩, ⟨b0, b1⟩, ⟨c0, c1⟩⟩ := s
 dsimp only at o0 o1 a0 a1 b0 b1 c0 c1
 unfold N14 at hn
 have e0 : bits .and .u32 (n % 4294967296) 16383 = (if n < 0 then n + 16384 else n) := by
  rw [Jo9 (n % 4294967296) 14 16383 16384 (by unfold W32; omega) (by decide) (by decide) (by decide)]
  split <;> omega
 have e1 : op % 4294967296 * 67108864 % 4294967296 = op * 67108864 := by omega
 have e2 : a % 4294967296 * 4194304 % 4294967296 = a * 4194304 := by omega
 have e3 : b % 4294967296 * 262144 % 4294967296 = b * 262144 := by omega
 have e4 : c % 4294967296 * 16384 % 4294967296 = c * 16384 := by omega
 have hm : ∃ M : Nat, (if n < 0 then n + 16384 else n) = (M : Int) ∧ M < 16384 := by
  by_cases h : n < 0
  ·rw [if_pos h]; exact ⟨(n + 16384).toNat, by omega, by omega⟩
  ·rw [if_neg h]; exact ⟨n.toNat, by omega, by omega⟩
 rw [e0, e1, e2, e3, e4]
 unfold encW
 dsimp only
 obtain ⟨M, hM, hM1⟩ := hm
 rw [hM]
 obtain ⟨O, rfl⟩ := Int.eq_ofNat_of_zero_le o0
 obtain ⟨A, rfl⟩ := Int.eq_ofNat_of_zero_le a0
 obtain ⟨B, rfl⟩ := Int.eq_ofNat_of_zero_le b0
 obtain ⟨C, rfl⟩ := Int.eq_ofNat_of_zero_le c0
 rw [or32 ((O : Int) * 67108864) ((A : Int) * 4194304) 26 O (A * 4194304) (by omega) (by omega) (by omega) (by omega) (by decide),
  or32 _ ((B : Int) * 262144) 22 (O * 16 + A) (B * 262144) (by omega) (by omega) (by omega) (by omega) (by decide),
  or32 _ ((C : Int) * 16384) 18 ((O * 16 + A) * 16 + B) (C * 16384) (by omega) (by omega) (by omega) (by omega) (by decide),
  or32 _ (M : Int) 14 (((O * 16 + A) * 16 + B) * 16 + C) M (by omega) rfl (by omega) (by omega) (by decide)]
 omega

theorem Jat (op a b c n : Int) (w : World) (s : Small ⟨op, a, b, c, n⟩) (hn : N14 n) :
  Calls Tryz.prog 83 #[.agg #[V op, V a, V b, V c, V n]] w fun e w' => e = .returned (.int .u32 (encW ⟨op, a, b, c, n⟩)) ∧ More w w' := by
 have H := Jjk s hn
 obtain ⟨u, hu⟩ : ∃ x, encW ⟨op, a, b, c, n⟩ = x := ⟨_, rfl⟩
 rw [hu] at H ⊢
 have HH : Hid (_ = u) := H
 clear s hn hu H
 go_enter Tryz.func83, Tryz.ntmps83
 go_wp2
 go_ret
 rw [← HH.out]
 exact ⟨rfl, (More.refl _).alloc _ _⟩
def J8h (p : Prg) (k j : Nat) : Value := .int .u32 (if j < k then encW (p.ins j) else 0)

structure P7 (w : World) (p : Prg) (rv cv : Value) (g k : Nat) (wr : World) : Prop where
 box : Blk wr w.heap.size #[rv, cv] 28
 res : Blk wr (w.heap.size + 1) #[V 0, V 0] 52
 row : ∀ j, j < p.cl → Wr wr g j (J8h p k j)
 lo : w.heap.size + 2 ≤ g
 hi : g < wr.heap.size
 ok : ∀ j, j < k → N14 (p.ins j).n
 more : More w wr

theorem P7.step {w : World} {p : Prg} {rv cv : Value} {g k : Nat} {wr w1 w2 : World} (h : P7 w p rv cv g k wr) (m1 : More wr w1) (hn : N14 (p.ins k).n) (e2 : w2 = w1.setCell ⟨g, k, none⟩ (.int .u32 (encW (p.ins k)))) : P7 w p rv cv g (k + 1) w2 := by
 have hlo := h.lo
 subst e2
 refine ⟨(h.box.more m1).other (by omega) _ _, (h.res.more m1).other (by omega) _ _, fun j hj => ?_, hlo, ?_, fun j hj => ?_, (h.more.trans m1).setCell (by show w.heap.size ≤ g; omega) _⟩
 ·have h1 := (h.row j hj).kept (m1.grow none) (by simp)
  by_cases e : j = k
  ·subst e
   have h2 := h1.same (.int .u32 (encW (p.ins j)))
   unfold J8h
   rw [if_pos (by omega)]
   exact h2
  ·have h2 := h1.other g k (.int .u32 (encW (p.ins k))) (.inr (fun q => e q.symm))
   have e2 : J8h p (k + 1) j = J8h p k j := by
    unfold J8h
    by_cases q : j < k
    ·rw [if_pos q, if_pos (by omega)]
    ·rw [if_neg q, if_neg (by omega)]
   rw [e2]
   exact h2
 ·have := m1.size; have := h.hi; simp; omega
 ·by_cases e : j = k
  ·subst e; exact hn
  ·exact h.ok j (by omega)

set_option maxHeartbeats 2000000 in
theorem Jie (p : Prg) (l : Loc) (w : World) (hp : PIn w p l) : Calls Tryz.prog 41 #[.agg #[.slice l.ra p.rl l.rc, .slice l.ca p.cl l.cc]] w (Jls p w) := by
 have CH : Hid (∀ w1 : World, More w w1 → Calls Tryz.prog 38 #[.agg #[.slice l.ra p.rl l.rc, .slice l.ca p.cl l.cc]] w1 fun e w' => ∃ r : Bool, e = .returned (.bool r) ∧ (r = true ↔ p.Ok 8000 10) ∧ More w1 w') := fun w1 m1 => J3i p l w1 (hp.more m1)
 have Hp : Hid (PIn w p l) := hp
 clear hp
 obtain ⟨ra, Hra⟩ : ∃ x, Hid (l.ra = x) := ⟨_, rfl⟩
 obtain ⟨rl, Hrl⟩ : ∃ x, Hid (p.rl = x) := ⟨_, rfl⟩
 obtain ⟨rc, Hrc⟩ : ∃ x, Hid (l.rc = x) := ⟨_, rfl⟩
 obtain ⟨ca, Hca⟩ : ∃ x, Hid (l.ca = x) := ⟨_, rfl⟩
 obtain ⟨cl, Hcl⟩ : ∃ x, Hid (p.cl = x) := ⟨_, rfl⟩
 obtain ⟨cc, Hcc⟩ : ∃ x, Hid (l.cc = x) := ⟨_, rfl⟩
 rw [Hra.out, Hrl.out, Hrc.out, Hca.out, Hcl.out, Hcc.out] at CH ⊢
 obtain ⟨W0, HW0⟩ : ∃ W : World, Hid (W = (w.alloc (.cells #[.slice ra rl rc, .slice ca cl cc] 28)).alloc (.cells #[V 0, V 0] 52)) := ⟨_, rfl⟩
 have Hm0 : Hid (More w W0) := by rw [HW0.out]; exact ((More.refl _).alloc _ _).alloc _ _
 have B0 : Hid (Blk W0 w.heap.size #[.slice ra rl rc, .slice ca cl cc] 28) := by rw [HW0.out]; exact (Blk.last _ _ _).alloc _ _
 have B1 : Hid (Blk W0 (w.heap.size + 1) #[V 0, V 0] 52) := by rw [HW0.out]; show Blk _ _ _ _; simpa using Blk.last (w.alloc (.cells #[.slice ra rl rc, .slice ca cl cc] 28)) #[V 0, V 0] 52
 go_enter Tryz.func41, Tryz.ntmps41
 go_wp2_with (fail)
 rw [← HW0.out]
 have b0 : W0.cell? ⟨w.heap.size, 0, none⟩ = some (.slice ra rl rc) := B0.out.cell rfl
 have b1 : W0.cell? ⟨w.heap.size, 1, none⟩ = some (.slice ca cl cc) := B0.out.cell rfl
 go_wp2_with (fail)
 refine (CH.out W0 Hm0.out).mono ?_
 rintro e w1 ⟨r, rfl, hr, m1⟩
 have Hm1 : Hid (More W0 w1) := m1
 have D0 : Hid (Blk w1 w.heap.size #[.slice ra rl rc, .slice ca cl cc] 28) := B0.out.more m1
 have D1 : Hid (Blk w1 (w.heap.size + 1) #[V 0, V 0] 52) := B1.out.more m1
 clear m1 CH B0 B1 b0 b1
 have a2 : w1.cell? ⟨w.heap.size + 1, 0, none⟩ = some (V 0) := D1.out.cell rfl
 have a3 : w1.cell? ⟨w.heap.size + 1, 1, none⟩ = some (V 0) := D1.out.cell rfl
 have z2 := D1.out.frozen 0
 have z3 := D1.out.frozen 1
 cases r with
 | false =>
  have Hno : Hid (¬ p.Ok 8000 10) := fun h => by simpa using hr.2 h
  clear hr
  go_wp2
  refine bodyPost_ret (v := .tuple #[.slice none 0 0, .agg #[V 2, V 0]]) (by simp [results, Tryz.results41, go_sem, *]) rfl ?_
  refine ⟨(2, 0), .inl ⟨Hno.out, rfl⟩, ?_, .inr ⟨by decide, rfl⟩⟩
  exact ((Hm0.out.trans Hm1.out).setCell (by show w.heap.size ≤ _; simp) _).setCell (by show w.heap.size ≤ _; simp) _
 | true =>
  have Hok : Hid (p.Ok 8000 10) := hr.1 rfl
  clear hr a2 a3 z2 z3
  have hcl0 := Hok.out.2.1
  have hcl1 := Hok.out.2.2.1
  have hca := Hp.out.hc (by omega)
  rw [Hcl.out] at hcl0 hcl1
  obtain ⟨cb, Hcb⟩ : ∃ x, Hid (l.cb = x) := ⟨_, rfl⟩
  obtain ⟨co, Hco⟩ : ∃ x, Hid (l.co = x) := ⟨_, rfl⟩
  rw [Hca.out, Hcb.out, Hco.out] at hca
  subst hca
  have HC : Hid (∀ w1 : World, More w w1 → CodeAt w1 cb co cl p.ins) := fun w1 m1 => by
   have := Hp.out.code.more m1
   rw [Hcb.out, Hco.out, Hcl.out] at this
   exact this
  have b0 : w1.cell? ⟨w.heap.size, 0, none⟩ = some (.slice ra rl rc) := D0.out.cell rfl
  have b1 : w1.cell? ⟨w.heap.size, 1, none⟩ = some (.slice (some ⟨cb, co, none⟩) cl cc) := D0.out.cell rfl
  have hmk := run_make_row' (P := Tryz.prog) 59 149 (.int .u32 0) 4 Tryz.underlying59 Jo0 rfl .i64 .i64 cl (by omega) (by omega)
  obtain ⟨w2, Hw2⟩ : ∃ w_ : World, Hid (w_ = w1.alloc (.cells (madeCells #[.int .u32 0] cl) 149)) := ⟨_, rfl⟩
  obtain ⟨g0, Hg0⟩ : ∃ x, Hid (x = w1.heap.size) := ⟨_, rfl⟩
  have HS0 : Hid (P7 w p (.slice ra rl rc) (.slice (some ⟨cb, co, none⟩) cl cc) g0 0 w2) := by
   have hsz := D1.out.lt
   have e := Hg0.out
   rw [Hw2.out]
   refine ⟨D0.out.alloc _ _, D1.out.alloc _ _, fun j hj => ?_, by omega, by rw [e]; simp, fun j hj => absurd hj (Nat.not_lt_zero _), (Hm0.out.trans Hm1.out).alloc _ _⟩
   rw [Hcl.out] at hj
   have hb := Blk.last w1 (madeCells #[.int .u32 0] cl) 149
   rw [e]
   refine ⟨hb.cell ?_, hb.frozen _⟩
   rw [J7a _ _ _ hj]
   rfl
  have zlt := D0.out.lt
  go_wp2_with (fail)
  rw [← Hw2.out, ← Hg0.out]
  clear hmk b0 b1 zlt
  go_loopg [18] cl (fun g iv wr => ∃ (k : Nat), k + g = cl ∧ iv = V k ∧ Hid (P7 w p (.slice ra rl rc) (.slice (some ⟨cb, co, none⟩) cl cc) g0 k wr))
  case atStart => exact ⟨0, by omega, rfl, HS0.out⟩
  case round =>
   obtain ⟨k, hkg, rfl, Hr⟩ := hrel
   clear HS0
   have a2 : wr.cell? ⟨w.heap.size + 1, 0, none⟩ = some (V 0) := Hr.out.res.cell rfl
   have a3 : wr.cell? ⟨w.heap.size + 1, 1, none⟩ = some (V 0) := Hr.out.res.cell rfl
   have z0 := Hr.out.res.lt
   have z2 := Hr.out.res.frozen 0
   have z3 := Hr.out.res.frozen 1
   cases gk with
   | zero =>
    obtain rfl : k = cl := by omega
    go_wp2
    refine bodyPost_ret (v := .tuple #[.slice (some ⟨g0, 0, none⟩) k k, .agg #[V 0, V 0]]) (by simp [results, Tryz.results41, go_sem, *]) rfl ?_
    have hlo := Hr.out.lo
    refine ⟨(0, 0), .inr (.inr ⟨Hok.out, fun j hj => Hr.out.ok j (by rw [← Hcl.out]; exact hj), rfl⟩), ?_, .inl ⟨rfl, g0, k, by rw [Hcl.out], by omega, fun i hi => ?_⟩⟩
    ·exact (Hr.out.more.setCell (by show w.heap.size ≤ _; simp) _).setCell (by show w.heap.size ≤ _; simp) _
    ·have h1 := (((Hr.out.row i hi).other (w.heap.size + 1) 0 (V 0) (.inl (by omega))).other (w.heap.size + 1) 1 (V 0) (.inl (by omega))).1
     rw [Nat.zero_add, h1]
     rw [Hcl.out] at hi
     unfold J8h
     rw [if_pos hi]
   | succ g =>
    have hk : k < cl := by omega
    have hki : (k : Int) < cl := by omega
    have hk63 : wrap64 ((k : Int) + 1) = (k : Int) + 1 := by unfold wrap64; omega
    obtain ⟨q0, q1, q2, q3, q4⟩ := HC.out wr Hr.out.more k hk
    have hsm : Small (p.ins k) := Jlc Hok.out.1.1 (Hok.out.2.2.2 k (by rw [Hcl.out]; exact hk))
    have Hst : Hid (∀ (w1 w2 : World), More wr w1 → N14 (p.ins k).n → w2 = w1.setCell ⟨g0, k, none⟩ (.int .u32 (encW (p.ins k))) → P7 w p (.slice ra rl rc) (.slice (some ⟨cb, co, none⟩) cl cc) g0 (k + 1) w2) := fun w1 w2 m1 hn e => Hr.out.step m1 hn e
    have Hrow : Hid (∀ w1 : World, More wr w1 → Wr w1 g0 k (J8h p k k)) := fun w1 m1 => (Hr.out.row k (by rw [Hcl.out]; exact hk)).kept (m1.grow none) (by simp)
    have Hbad : Hid (¬ N14 (p.ins k).n → PutR p (3, (k : Int))) := fun h => .inr (.inl ⟨Hok.out, k, by rw [Hcl.out]; exact hk, Hr.out.ok, h, rfl⟩)
    obtain ⟨⟨op, a, b, c, n⟩, HI⟩ : ∃ x, Hid (p.ins k = x) := ⟨_, rfl⟩
    rw [HI.out] at q0 q1 q2 q3 q4 hsm Hbad Hst
    dsimp only at q0 q1 q2 q3 q4 Hbad
    have Hsm : Hid (Small ⟨op, a, b, c, n⟩) := hsm
    clear hsm
    by_cases hn : N14 n
    ·have hn' := hn
     obtain ⟨n0, n1⟩ := hn'
     have d1 : decide (n < -8192) = false := by simp; omega
     have d2 : decide (8191 < n) = false := by simp; omega
     have HN : Hid (N14 n) := hn
     clear hn Hbad n0 n1
     go_wp2_with (fail)
     refine (Jat op a b c n _ Hsm.out HN.out).mono ?_
     rintro e w3 ⟨rfl, m3⟩
     have Hm3 : Hid (More wr w3) := ((More.refl _).alloc _ _).trans m3
     clear m3
     obtain ⟨x1, x2⟩ := Hrow.out w3 Hm3.out
     obtain ⟨u, Hu⟩ : ∃ x, Hid (encW ⟨op, a, b, c, n⟩ = x) := ⟨_, rfl⟩
     rw [Hu.out] at Hst ⊢
     have Hn3 : Hid (P7 w p (.slice ra rl rc) (.slice (some ⟨cb, co, none⟩) cl cc) g0 (k + 1) (w3.setCell ⟨g0, k, none⟩ (.int .u32 u))) := Hst.out w3 _ Hm3.out HN.out rfl
     clear Hst
     go_wp2
     go_roundg g
     case measure => omega
     case rel => exact ⟨k + 1, by omega, by first | rfl | simp, Hn3.out⟩
    ·have HB : Hid (PutR p (3, (k : Int))) := Hbad.out hn
     have Hmr : Hid (More w wr) := Hr.out.more
     clear Hbad Hst Hrow
     have Hfin : Hid (∀ w' : World, w' = ((wr.setCell ⟨w.heap.size + 1, 0, none⟩ (V 3)).setCell ⟨w.heap.size + 1, 1, none⟩ (V (k : Int))).alloc (.cells #[V op, V a, V b, V c, V n] 41) → Jls p w (.returned (.tuple #[.slice none 0 0, .agg #[V 3, V (k : Int)]])) w') := fun w' e => by
      refine ⟨(3, (k : Int)), HB.out, ?_, .inr ⟨by show ¬ (3 : Int) = 0; decide, rfl⟩⟩
      rw [e]
      exact ((Hmr.out.setCell (by show w.heap.size ≤ _; simp) _).setCell (by show w.heap.size ≤ _; simp) _).alloc _ _
     by_cases h1 : n < -8192
     ·have d1 : decide (n < -8192) = true := by simp [h1]
      clear hn
      go_wp2
      refine bodyPost_ret (v := .tuple #[.slice none 0 0, .agg #[V 3, V (k : Int)]]) (by simp [results, Tryz.results41, go_sem, *]) rfl (Hfin.out _ rfl)
     ·have d1 : decide (n < -8192) = false := by simp [h1]
      have d2 : decide (8191 < n) = true := by unfold N14 at hn; simp; omega
      clear hn h1
      go_wp2
      refine bodyPost_ret (v := .tuple #[.slice none 0 0, .agg #[V 3, V (k : Int)]]) (by simp [results, Tryz.results41, go_sem, *]) rfl (Hfin.out _ rfl)
def Jmd (p : Prg) (w : World) (e : Ending) (w' : World) : Prop :=
  ∃ f : Int × Int, Told p f ∧ More w w' ∧
    ((f.1 = 0 ∧ ∃ g c, e = .returned (.tuple #[.slice (some ⟨g, 0, none⟩) (fitP (hardP p)).cl c, .agg #[V 0, V 0]]) ∧ J7d w' g 0 (fitP (hardP p)).cl (fun j => encW ((fitP (hardP p)).ins j))) ∨
     (¬ f.1 = 0 ∧ e = .returned (.tuple #[.slice none 0 0, .agg #[V f.1, V f.2]])))

theorem Jky {q : Prg} {f : Int × Int} (ok : q.Ok 8000 10) (hn : ∀ j, j < q.cl → N14 (q.ins j).n) (h : PutR q f) : f = (0, 0) := h.one (.inr (.inr ⟨ok, hn, rfl⟩))

set_option maxHeartbeats 2000000 in
theorem Jg0 (p : Prg) (l : Loc) (w : World) (hp : PIn w p l) (hf : p.Fit) : Calls Tryz.prog 18 #[prgV p l] w (Jmd p w) := by
  unfold prgV
  have C1 : Hid (∀ w1 : World, More w w1 → Calls Tryz.prog 16 #[.agg #[.slice l.ra p.rl l.rc, .slice l.ca p.cl l.cc]] w1 (Made p w1)) := fun w1 m1 => Jg4 p l w1 (hp.more m1) hf
  have C2 : Hid (p.Ok 200 8 → ∀ (lh : Loc) (w1 w2 : World) (Lb : Nat), More w1 w2 → w1.heap.size ≤ Lb → PIn w1 (hardP p) lh → Blk w2 Lb #[.slice lh.ra (hardP p).rl lh.rc, .slice lh.ca (hardP p).cl lh.cc, .slice none 0 0] 109 → Calls Tryz.prog 42 #[.pointer (some ⟨Lb, 0, none⟩)] w2 fun e w' => ∃ lf : Loc, e = .returned (prgV (fitP (hardP p)) lf) ∧ PIn w' (fitP (hardP p)) lf ∧ More w1 w') := fun ok lh w1 w2 Lb m h1 h2 h3 => by
    have hl := Jhj (J5w p) ok hf
    exact Jfz (hardP p) lh w1 w2 Lb m h1 h2 hl.ok (by have := J2u p p.cl; have := ok.2.2.1; show J0c p p.cl ≤ 600; omega) h3 (fun k hk => (hl.fit.ins k hk).2.2.2.2)
  have C3 : Hid (p.Ok 200 8 → ∀ (lf : Loc) (w1 : World), PIn w1 (fitP (hardP p)) lf → Calls Tryz.prog 41 #[prgV (fitP (hardP p)) lf] w1 fun e w' => More w1 w' ∧ ∃ g c, e = .returned (.tuple #[.slice (some ⟨g, 0, none⟩) (fitP (hardP p)).cl c, .agg #[V 0, V 0]]) ∧ w1.heap.size ≤ g ∧ J7d w' g 0 (fitP (hardP p)).cl (fun j => encW ((fitP (hardP p)).ins j))) := fun ok lf w1 h1 => by
    refine (Jie _ lf w1 h1).mono ?_
    rintro e w' ⟨f, hR, m, h⟩
    obtain rfl := Jky (Jlx ok hf) (Jjv ok hf) hR
    rcases h with ⟨_, g, c, he, hg, hw⟩ | ⟨h, _⟩
    · exact ⟨m, g, c, he, hg, hw⟩
    · exact absurd rfl h
  clear hp hf
  obtain ⟨ra, Hra⟩ : ∃ x, Hid (l.ra = x) := ⟨_, rfl⟩
  obtain ⟨rl, Hrl⟩ : ∃ x, Hid (p.rl = x) := ⟨_, rfl⟩
  obtain ⟨rc, Hrc⟩ : ∃ x, Hid (l.rc = x) := ⟨_, rfl⟩
  obtain ⟨ca, Hca⟩ : ∃ x, Hid (l.ca = x) := ⟨_, rfl⟩
  obtain ⟨cl, Hcl⟩ : ∃ x, Hid (p.cl = x) := ⟨_, rfl⟩
  obtain ⟨cc, Hcc⟩ : ∃ x, Hid (l.cc = x) := ⟨_, rfl⟩
  rw [Hra.out, Hrl.out, Hrc.out, Hca.out, Hcl.out, Hcc.out] at C1 ⊢
  obtain ⟨W0, HW0⟩ : ∃ W : World, Hid (W = (w.alloc (.cells #[.slice ra rl rc, .slice ca cl cc] 28)).alloc (.cells #[V 0, V 0] 52)) := ⟨_, rfl⟩
  have Hm0 : Hid (More w W0) := HW0.out ▸ ((More.refl _).alloc _ _).alloc _ _
  have B1 : Hid (Blk W0 (w.heap.size + 1) #[V 0, V 0] 52) := HW0.out ▸ (by simpa using Blk.last (w.alloc (.cells #[.slice ra rl rc, .slice ca cl cc] 28)) #[V 0, V 0] 52 : Blk _ (w.heap.size + 1) _ _)
  go_enter Tryz.func18, Tryz.ntmps18
  go_wp2_with (fail)
  rw [← HW0.out]
  refine (C1.out W0 Hm0.out).mono ?_
  rintro e w1 ⟨⟨f1, f2⟩, hT, m1, h⟩
  have HT : Hid (Told p (f1, f2)) := hT
  have Hm1 : Hid (More W0 w1) := m1
  clear hT m1 C1
  rcases h with ⟨h0, lh, hin, rfl⟩ | ⟨h0, rfl⟩
  · dsimp only at h0
    subst h0
    obtain ⟨hok, lk, hk, hk0⟩ := HT.out.ok rfl
    have HO : Hid (p.Ok 200 8) := hok
    clear hok hk hk0
    have C2' := C2.out HO.out lh
    have C3' : Hid (∀ (lf : Loc) (w1 : World), PIn w1 (fitP (hardP p)) lf → Calls Tryz.prog 41 #[prgV (fitP (hardP p)) lf] w1 fun e w' => More w1 w' ∧ ∃ g c, e = .returned (.tuple #[.slice (some ⟨g, 0, none⟩) (fitP (hardP p)).cl c, .agg #[V 0, V 0]]) ∧ w1.heap.size ≤ g ∧ J7d w' g 0 (fitP (hardP p)).cl (fun j => encW ((fitP (hardP p)).ins j))) := C3.out HO.out
    have Hin : Hid (PIn w1 (hardP p) lh) := hin
    unfold prgV
    obtain ⟨ra', Hra'⟩ : ∃ x, Hid (lh.ra = x) := ⟨_, rfl⟩
    obtain ⟨rl', Hrl'⟩ : ∃ x, Hid ((hardP p).rl = x) := ⟨_, rfl⟩
    obtain ⟨rc', Hrc'⟩ : ∃ x, Hid (lh.rc = x) := ⟨_, rfl⟩
    obtain ⟨ca', Hca'⟩ : ∃ x, Hid (lh.ca = x) := ⟨_, rfl⟩
    obtain ⟨cl', Hcl'⟩ : ∃ x, Hid ((hardP p).cl = x) := ⟨_, rfl⟩
    obtain ⟨cc', Hcc'⟩ : ∃ x, Hid (lh.cc = x) := ⟨_, rfl⟩
    rw [Hra'.out, Hrl'.out, Hrc'.out, Hca'.out, Hcl'.out, Hcc'.out] at C2' ⊢
    have C2'' : Hid (∀ (w1 w2 : World) (Lb : Nat), More w1 w2 → w1.heap.size ≤ Lb → PIn w1 (hardP p) lh → Blk w2 Lb #[.slice ra' rl' rc', .slice ca' cl' cc', .slice none 0 0] 109 → Calls Tryz.prog 42 #[.pointer (some ⟨Lb, 0, none⟩)] w2 fun e w' => ∃ lf : Loc, e = .returned (prgV (fitP (hardP p)) lf) ∧ PIn w' (fitP (hardP p)) lf ∧ More w1 w') := C2'
    clear C2 C3 C2' hin
    obtain ⟨W2, HW2⟩ : ∃ W : World, Hid (W = ((w1.alloc (.cells #[.slice ra' rl' rc', .slice ca' cl' cc'] 28)).alloc (.cells #[V 0, V 0] 52)).alloc (.cells #[.slice ra' rl' rc', .slice ca' cl' cc', .slice none 0 0] 109)) := ⟨_, rfl⟩
    have Hm2 : Hid (More w1 W2) := HW2.out ▸ (((More.refl _).alloc _ _).alloc _ _).alloc _ _
    have HB2 : Hid (Blk W2 (w1.heap.size + 1 + 1) #[.slice ra' rl' rc', .slice ca' cl' cc', .slice none 0 0] 109) := HW2.out ▸ (by simpa using Blk.last ((w1.alloc (.cells #[.slice ra' rl' rc', .slice ca' cl' cc'] 28)).alloc (.cells #[V 0, V 0] 52)) #[.slice ra' rl' rc', .slice ca' cl' cc', .slice none 0 0] 109 : Blk _ (w1.heap.size + 1 + 1) _ _)
    have C21 := C2''.out w1 W2 (w1.heap.size + 1 + 1) Hm2.out (by omega) Hin.out HB2.out
    go_wp2_with (fail)
    rw [← HW2.out]
    refine C21.mono ?_
    rintro e w3 ⟨lf, rfl, hin3, m3⟩
    have C31 := C3'.out lf w3 hin3
    have Hm3 : Hid (More w1 w3) := m3
    unfold prgV at C31 ⊢
    obtain ⟨ra2, Hra2⟩ : ∃ x, Hid (lf.ra = x) := ⟨_, rfl⟩
    obtain ⟨rl2, Hrl2⟩ : ∃ x, Hid ((fitP (hardP p)).rl = x) := ⟨_, rfl⟩
    obtain ⟨rc2, Hrc2⟩ : ∃ x, Hid (lf.rc = x) := ⟨_, rfl⟩
    obtain ⟨ca2, Hca2⟩ : ∃ x, Hid (lf.ca = x) := ⟨_, rfl⟩
    obtain ⟨cl2, Hcl2⟩ : ∃ x, Hid ((fitP (hardP p)).cl = x) := ⟨_, rfl⟩
    obtain ⟨cc2, Hcc2⟩ : ∃ x, Hid (lf.cc = x) := ⟨_, rfl⟩
    rw [Hra2.out, Hrl2.out, Hrc2.out, Hca2.out, Hcl2.out, Hcc2.out] at C31
    rw [Hra2.out, Hrl2.out, Hrc2.out, Hca2.out, Hcl2.out, Hcc2.out]
    clear C2'' C3' C21 hin3 m3
    go_wp2_with (fail)
    refine C31.mono ?_
    rintro e w4 ⟨m4, g, c, rfl, hg, hw⟩
    have HW4 : Hid (J7d w4 g 0 cl2 (fun j => encW ((fitP (hardP p)).ins j)) ∧ w3.heap.size ≤ g) := ⟨hw, hg⟩
    have Hm4 : Hid (More W0 w4) := (Hm1.out.trans Hm3.out).trans m4
    clear hw hg m4 C31
    have B4 : Hid (Blk w4 (w.heap.size + 1) #[V 0, V 0] 52) := B1.out.more Hm4.out
    have a0 : w4.cell? ⟨w.heap.size + 1, 0, none⟩ = some (V 0) := B4.out.cell rfl
    have a1 : w4.cell? ⟨w.heap.size + 1, 1, none⟩ = some (V 0) := B4.out.cell rfl
    have z0 := B4.out.frozen 0
    have z1 := B4.out.frozen 1
    go_wp2
    refine bodyPost_ret (v := .tuple #[.slice (some ⟨g, 0, none⟩) cl2 c, .agg #[V 0, V 0]]) (by simp [results, Tryz.results18, go_sem, *]) rfl ?_
    have hsz : w.heap.size + 1 < w3.heap.size := by
      have := (B1.out.more (Hm1.out.trans Hm3.out)).lt
      omega
    refine ⟨(0, f2), HT.out, ?_, .inl ⟨rfl, g, c, ?_, ?_⟩⟩
    · exact ((Hm0.out.trans Hm4.out).setCell (by show w.heap.size ≤ _; simp) _).setCell (by show w.heap.size ≤ _; simp) _
    · rw [Hcl2.out]
    · rw [Hcl2.out]
      have hg := HW4.out.2
      intro j hj
      rw [World.cell?_setCell_other _ _ _ _ (by intro e; simp only [Addr.mk.injEq] at e; omega), World.cell?_setCell_other _ _ _ _ (by intro e; simp only [Addr.mk.injEq] at e; omega)]
      exact HW4.out.1 j hj
  · have H0 : Hid (¬ f1 = 0) := h0
    have e1 : (f1 != 0) = true := by simp; exact h0
    clear h0 C2 C3
    obtain ⟨W, HW⟩ : ∃ W : World, Hid (W = (w1.alloc (.cells #[.slice none 0 0, .slice none 0 0] 28)).alloc (.cells #[V f1, V f2] 52)) := ⟨_, rfl⟩
    have HmW : Hid (More w1 W) := HW.out ▸ ((More.refl _).alloc _ _).alloc _ _
    have D3 : Hid (Blk W (w1.heap.size + 1) #[V f1, V f2] 52) := HW.out ▸ (by simpa using Blk.last (w1.alloc (.cells #[.slice none 0 0, .slice none 0 0] 28)) #[V f1, V f2] 52 : Blk _ (w1.heap.size + 1) _ _)
    have Hm : Hid (More W0 W) := Hm1.out.trans HmW.out
    obtain ⟨S, HS⟩ : ∃ S : World → Prop, Hid (∀ w', S w' ↔ Blk w' (w1.heap.size + 1) #[V f1, V f2] 52) := ⟨_, fun _ => Iff.rfl⟩
    have HS0 : S W.drew := (HS.out _).2 D3.out
    have k0 : ∀ i : { w' // S w' }, i.val.cell? ⟨w1.heap.size + 1, 0, none⟩ = some (V f1) := fun i => ((HS.out _).1 i.property).cell rfl
    have k1 : ∀ i : { w' // S w' }, i.val.cell? ⟨w1.heap.size + 1, 1, none⟩ = some (V f2) := fun i => ((HS.out _).1 i.property).cell rfl
    have hne : Nonempty { w' // S w' } := ⟨⟨_, HS0⟩⟩
    have hz1 : w.heap.size + 1 < w1.heap.size := (B1.out.more Hm1.out).lt
    have B4 : Hid (Blk W (w.heap.size + 1) #[V 0, V 0] 52) := B1.out.more Hm.out
    have a0 : W.cell? ⟨w.heap.size + 1, 0, none⟩ = some (V 0) := B4.out.cell rfl
    have a1 : W.cell? ⟨w.heap.size + 1, 1, none⟩ = some (V 0) := B4.out.cell rfl
    have z0 := B4.out.frozen 0
    have z1 := B4.out.frozen 1
    go_wp2_with (fail)
    rw [← HW.out]
    refine J03 (S := S) [(0, true), (1, true), (2, false)] (by kernel_rfl) (by kernel_rfl) (by kernel_rfl) HS0 ?_
    iterate 2 (refine J01 rfl (by kernel_rfl) (fun K hK => ?_); go_simp; refine hK _ _ ?_; clear hK K)
    refine J02 rfl (by kernel_rfl) (fun K hK => ?_); go_simp
    refine hK _ _ ((HS.out _).2 ((D3.out.other (by omega) _ _).other (by omega) _ _)) ?_; clear hK K
    refine J07 ?_
    clear k0 k1 hne HS0
    go_wp2
    refine bodyPost_ret (v := .tuple #[.slice none 0 0, .agg #[V f1, V f2]]) (by simp [results, Tryz.results18, go_sem, *]) rfl ?_
    refine ⟨(f1, f2), HT.out, ?_, .inr ⟨H0.out, rfl⟩⟩
    exact (((Hm0.out.trans Hm.out).setCell (by show w.heap.size ≤ _; simp) _).setCell (by show w.heap.size ≤ _; simp) _).drew
theorem Jk5 {rl : Nat} {log : Nat → Int} {cl : Nat} {r : Int} {i : Ins} (h : InsOk rl log cl r i) : ¬ i.op = 0 := by
 intro e
 unfold InsOk at h
 simp [e] at h
 all_goals omega

set_option maxHeartbeats 8000000 in
theorem Jde (p : Prg) (l : Loc) (w : World) (hL : Lai w) (hp : PIn w p l) (hf : p.Fit) :
  Calls Tryz.prog 17 #[.agg #[.slice l.ra p.rl l.rc, .slice l.ca p.cl l.cc]] w fun e w' => More w w' ∧ ((p.Ok 8000 10 ∧ e = .returned (.tuple #[.string (txt (textL p)), V 0])) ∨ (¬ p.Ok 8000 10 ∧ e = .returned (.tuple #[.string (txt []), V 2]))) := by
 suffices hP : ∀ P : Ending → World → Prop, (∀ w', More w w' → p.Ok 8000 10 → P (.returned (.tuple #[.string (txt (textL p)), V 0])) w') → (∀ w', More w w' → ¬ p.Ok 8000 10 → P (.returned (.tuple #[.string ⟨#[]⟩, V 2])) w') → Calls Tryz.prog 17 #[.agg #[.slice l.ra p.rl l.rc, .slice l.ca p.cl l.cc]] w P from hP _ (fun w' m ok => ⟨m, .inl ⟨ok, rfl⟩⟩) (fun w' m ok => ⟨m, .inr ⟨ok, rfl⟩⟩)
 intro P hP1 hP2
 have HP1 : Hid (∀ w', More w w' → p.Ok 8000 10 → P (.returned (.tuple #[.string (txt (textL p)), V 0])) w') := hP1
 have HP2 : Hid (∀ w', More w w' → ¬ p.Ok 8000 10 → P (.returned (.tuple #[.string ⟨#[]⟩, V 2])) w') := hP2
 have HL : Hid (Lai w) := hL
 have CH : Hid (∀ w1, More w w1 → Calls Tryz.prog 38 #[.agg #[.slice l.ra p.rl l.rc, .slice l.ca p.cl l.cc]] w1 fun e w' => ∃ r : Bool, e = .returned (.bool r) ∧ (r = true ↔ p.Ok 8000 10) ∧ More w1 w') := fun w1 m => J3i p l w1 (hp.more m)
 have CR : Hid (∀ k, k < p.rl → ∀ w1, Lai w1 → Calls Tryz.prog 39 #[.agg #[V (p.log k), .bool (p.sec k)]] w1 fun e w' => ∃ d : ByteArray, e = .returned (.string d) ∧ d ++ txt [10] = txt (regL (p.log k) (p.sec k)) ∧ d.size ≤ 36 ∧ More w1 w') := fun k hk w1 h => by
  refine (Jag (p.log k) (p.sec k) (hf.log k hk) w1 h).mono ?_
  rintro e w' ⟨rfl, m⟩
  refine ⟨_, rfl, by rw [J3b, Jf3], ?_, m⟩
  have h1 := J5i (p.log k) (p.sec k)
  rw [← Jf3, List.length_append] at h1
  rw [J0h]
  omega
 have CI : Hid (p.Ok 8000 10 → ∀ k, k < p.cl → ∀ w1, Lai w1 → Calls Tryz.prog 40 #[.agg #[V (p.ins k).op, V (p.ins k).a, V (p.ins k).b, V (p.ins k).c, V (p.ins k).n]] w1 fun e w' => ∃ d : ByteArray, e = .returned (.string d) ∧ d ++ txt [10] = txt (lineL (p.ins k)) ∧ d.size ≤ 240 ∧ More w1 w') := fun ok k hk w1 h =>
  Ja3 (p.ins k) ⟨(hf.ins k hk).2.1, (hf.ins k hk).2.2.1, (hf.ins k hk).2.2.2.1, (hf.ins k hk).2.2.2.2⟩ (Jk8 (Jhn (ok.2.2.2 k hk)) (Jk5 (ok.2.2.2 k hk))) w1 h
 have HR : Hid (∀ w1 : World, More w w1 → RegsAt w1 l.rb l.ro p.rl p.log p.sec ∧ CodeAt w1 l.cb l.co p.cl p.ins) := fun w1 m1 => ⟨hp.regs.more m1, hp.code.more m1⟩
 have Hra : Hid (0 < p.rl → l.ra = some ⟨l.rb, l.ro, none⟩) := hp.hr
 have Hca : Hid (0 < p.cl → l.ca = some ⟨l.cb, l.co, none⟩) := hp.hc
 have Hn : Hid (p.Ok 8000 10 → p.rl ≤ 6 ∧ 0 < p.cl ∧ p.cl ≤ 8000) := fun ok => ⟨ok.1.1, by have := ok.2.1; omega, ok.2.2.1⟩
 clear hP1 hP2 hL hp hf
 obtain ⟨ra, Hra1⟩ : ∃ x, Hid (l.ra = x) := ⟨_, rfl⟩
 obtain ⟨rl, Hrl⟩ : ∃ x, Hid (p.rl = x) := ⟨_, rfl⟩
 obtain ⟨rc, Hrc⟩ : ∃ x, Hid (l.rc = x) := ⟨_, rfl⟩
 obtain ⟨rb, Hrb⟩ : ∃ x, Hid (l.rb = x) := ⟨_, rfl⟩
 obtain ⟨ro, Hro⟩ : ∃ x, Hid (l.ro = x) := ⟨_, rfl⟩
 obtain ⟨ca, Hca1⟩ : ∃ x, Hid (l.ca = x) := ⟨_, rfl⟩
 obtain ⟨cb, Hcb⟩ : ∃ x, Hid (l.cb = x) := ⟨_, rfl⟩
 obtain ⟨co, Hco⟩ : ∃ x, Hid (l.co = x) := ⟨_, rfl⟩
 obtain ⟨cc, Hcc⟩ : ∃ x, Hid (l.cc = x) := ⟨_, rfl⟩
 obtain ⟨cl, Hcl⟩ : ∃ x, Hid (p.cl = x) := ⟨_, rfl⟩
 rw [Hra1.out, Hrl.out, Hrc.out, Hca1.out, Hcc.out, Hcl.out] at CH ⊢
 rw [Hrl.out, Hrb.out, Hro.out, Hcb.out, Hco.out, Hcl.out] at HR
 rw [Hra1.out, Hrl.out, Hrb.out, Hro.out] at Hra
 rw [Hca1.out, Hcl.out, Hcb.out, Hco.out] at Hca
 rw [Hrl.out] at CR
 rw [Hcl.out] at CI
 rw [Hrl.out, Hcl.out] at Hn
 have HT : Hid (textL p = regsL p rl ++ insL_ p cl) := by show _ = _; rw [← Hrl.out, ← Hcl.out]; rfl
 obtain ⟨W, HW⟩ : ∃ w_ : World, Hid (w_ = w.alloc (.cells #[.slice ra rl rc, .slice ca cl cc] 28)) := ⟨_, rfl⟩
 have HmW : Hid (More w W) := HW.out ▸ (More.refl _).alloc _ _
 have HbW : Hid (Blk W w.heap.size #[.slice ra rl rc, .slice ca cl cc] 28) := HW.out ▸ Blk.last _ _ _
 go_enter Tryz.func17, Tryz.ntmps17
 go_wp2_with (fail)
 rw [← HW.out]
 refine (CH.out W HmW.out).mono ?_
 rintro e w1 ⟨r, rfl, hr, m1⟩
 have Hm1 : Hid (More w w1) := HmW.out.trans m1
 have Hb1 : Hid (Blk w1 w.heap.size #[.slice ra rl rc, .slice ca cl cc] 28) := HbW.out.more m1
 have HO := J04 hr
 clear m1 hr CH HW HmW HbW
 cases r with
 | false =>
  have HE := J04 (HP2.out w1 Hm1.out (fun ok => absurd (HO.out.2 ok) (by simp)))
  clear HP1 HP2
  go_wp2
  exact HE.out
 | true =>
  have Hok : Hid (p.Ok 8000 10) := HO.out.1 rfl
  obtain ⟨h6, hc0, hc8⟩ := Hn.out Hok.out
  have CI1 := J04 (CI.out Hok.out)
  obtain rfl := Hca.out hc0
  have HP := J04 (fun w' m => HP1.out w' m Hok.out)
  rw [HT.out] at HP
  clear HP1 HP2 CI HO Hn Hok Hca HT
  have b0 : w1.cell? ⟨w.heap.size, 0, none⟩ = some (.slice ra rl rc) := Hb1.out.cell rfl
  have lt0 := Hb1.out.lt
  obtain ⟨W2, HW2⟩ : ∃ w_ : World, Hid (w_ = w1.alloc (.cells #[.pointer none, .slice none 0 0] 67)) := ⟨_, rfl⟩
  have HB2 : Hid (Bld W2 w1.heap.size w1.heap.size []) := HW2.out ▸ J3f w1
  have Hm2 : Hid (More w1 W2) := HW2.out ▸ (More.refl _).alloc _ _
  go_wp2_with (fail)
  rw [← HW2.out]
  obtain ⟨B, HB⟩ : ∃ x, Hid (w1.heap.size = x) := ⟨_, rfl⟩
  have CWr : Hid (∀ (l m : List UInt8) (d : ByteArray) w', d ++ txt [10] = txt m → Bld w' B B l → l.length + m.length ≤ 140737488355328 → B ≤ w'.heap.size → Calls Tryz.prog 20 #[.pointer (some ⟨B, 0, none⟩), .string (d ++ ⟨#[10]⟩)] w' fun e w'' => ∃ n : Int, e = .returned (.tuple #[V n, .nilIface]) ∧ Bld w'' B B (l ++ m) ∧ Below B w' w'') := fun l m d w' hd hb hl hB => by
   have hd' : d ++ ⟨#[10]⟩ = txt m := hd
   rw [hd']
   exact (J18 B B l m w' hb hl hB).mono (fun e w'' h => ⟨_, h.1, h.2.1, h.2.2.1⟩)
  rw [HB.out] at HB2 ⊢
  have HM : Hid (∀ wr, Below B w1 wr → More w wr ∧ B ≤ wr.heap.size) := fun wr m => by
   have m' : More w1 wr := by show Below w1.heap.size w1 wr; rw [HB.out]; exact m
   exact ⟨Hm1.out.trans m', by rw [← HB.out]; exact m'.size⟩
  have Hb1' : Hid (∀ wr, Below B w1 wr → Blk wr w.heap.size #[.slice ra rl rc, .slice (some ⟨cb, co, none⟩) cl cc] 28) := fun wr m => Hb1.out.more (by show Below w1.heap.size w1 wr; rw [HB.out]; exact m)
  have HW0 : Hid (Below B w1 W2) := HB.out ▸ Hm2.out
  go_loopg [15] rl (fun g kv wr => ∃ k : Nat, k + g = rl ∧ kv = V k ∧ Hid (Bld wr B B (regsL p k) ∧ Below B w1 wr))
  case atStart => exact ⟨0, by omega, rfl, HB2.out, HW0.out⟩
  case round =>
   obtain ⟨k, hkg, rfl, Hr⟩ := hrel
   cases gk with
   | zero =>
    obtain rfl : k = rl := by omega
    have b1 : wr.cell? ⟨w.heap.size, 1, none⟩ = some (.slice (some ⟨cb, co, none⟩) cl cc) := (Hb1'.out wr Hr.out.2).cell rfl
    clear CR
    go_wp2_with (fail)
    go_loopg [27] cl (fun g kv wr => ∃ j : Nat, j + g = cl ∧ kv = V j ∧ Hid (Bld wr B B (regsL p k ++ insL_ p j) ∧ Below B w1 wr))
    case atStart => exact ⟨0, by omega, rfl, by simpa [insL_] using Hr.out.1, Hr.out.2⟩
    case round =>
     obtain ⟨j, hjg, rfl, Hr2⟩ := hrel
     clear b1
     cases gk with
     | zero =>
      obtain rfl : j = cl := by omega
      have CS := J04 (J22 B B _ wr Hr2.out.1 (HM.out wr Hr2.out.2).2)
      obtain ⟨os, Hos⟩ : ∃ x, Hid (txt (regsL p k ++ insL_ p j) = x) := ⟨_, rfl⟩
      rw [Hos.out] at CS HP
      clear CI1
      go_wp2_with (fail)
      refine CS.out.mono ?_
      rintro e w3 ⟨rfl, _, b3, _⟩
      have HE := J04 (HP.out w3 (HM.out w3 (Hr2.out.2.trans b3)).1)
      clear b3 HP
      go_wp2
      exact HE.out
     | succ g =>
      have hj : j < cl := by omega
      have hji : (j : Int) < cl := by omega
      have hj63 : wrap64 ((j : Int) + 1) = (j : Int) + 1 := by unfold wrap64; omega
      obtain ⟨q0, q1, q2, q3, q4⟩ := (HR.out wr (HM.out wr Hr2.out.2).1).2 j hj
      have CX := J04 (CI1.out j hj)
      have Hnx : Hid (∀ w', Bld w' B B (regsL p k ++ insL_ p j ++ lineL (p.ins j)) → Below B w1 w' → ∃ j' : Nat, j' + g = cl ∧ Value.int .i64 ((j : Int) + 1) = V j' ∧ Hid (Bld w' B B (regsL p k ++ insL_ p j') ∧ Below B w1 w')) := fun w' h m => by
       refine ⟨j + 1, by omega, by simp, ?_, m⟩
       rw [insL_, ← List.append_assoc]
       exact h
      have Hlen : Hid ((regsL p k ++ insL_ p j).length + (lineL (p.ins j)).length ≤ 140737488355328) := by
       have h1 := J32 p k
       have h2 := J4f p j
       have h3 := J6v (p.ins j)
       show _ ≤ _
       rw [List.length_append]
       omega
      obtain ⟨⟨op, a, b, c, n⟩, HI⟩ : ∃ x, Hid (p.ins j = x) := ⟨_, rfl⟩
      rw [HI.out] at q0 q1 q2 q3 q4 CX Hnx Hlen
      dsimp only at q0 q1 q2 q3 q4 CX
      obtain ⟨W3, HW3⟩ : ∃ w_ : World, Hid (w_ = wr.alloc (.cells #[V op, V a, V b, V c, V n] 41)) := ⟨_, rfl⟩
      have Hm3 : Hid (More wr W3) := HW3.out ▸ (More.refl _).alloc _ _
      have HL3 : Hid (Lai W3) := HL.out.more ((HM.out wr Hr2.out.2).1.trans Hm3.out)
      clear CI1 HP
      go_wp2_with (fail)
      rw [← HW3.out]
      refine (CX.out W3 HL3.out).mono ?_
      rintro e w3 ⟨d, rfl, hd, hdz, m3⟩
      have Hm4 : Hid (More wr w3) := Hm3.out.trans m3
      have CZ := J04 (CWr.out _ _ d w3 hd (J3q Hr2.out.1 Hm4.out) Hlen.out ((HM.out w3 (Hr2.out.2.trans (Below.mono Hm4.out (HM.out wr Hr2.out.2).2))).2))
      clear m3 hd CX q0 q1 q2 q3 q4 CWr
      go_wp2_with (fail)
      refine CZ.out.mono ?_
      rintro e w4 ⟨n4, rfl, h4, b4⟩
      have HN := J04 (Hnx.out w4 h4 ((Hr2.out.2.trans (Below.mono Hm4.out (HM.out wr Hr2.out.2).2)).trans b4))
      clear CZ Hnx h4 b4
      go_wp2
      go_roundg g
      case measure => omega
      case rel => exact HN.out
   | succ g =>
    have hk : k < rl := by omega
    have hki : (k : Int) < rl := by omega
    have hk63 : wrap64 ((k : Int) + 1) = (k : Int) + 1 := by unfold wrap64; omega
    obtain rfl := Hra.out (by omega)
    obtain ⟨q0, q1⟩ := (HR.out wr (HM.out wr Hr.out.2).1).1 k hk
    have CX := J04 (CR.out k hk)
    have Hnx : Hid (∀ w', Bld w' B B (regsL p k ++ regL (p.log k) (p.sec k)) → Below B w1 w' → ∃ k' : Nat, k' + g = rl ∧ Value.int .i64 ((k : Int) + 1) = V k' ∧ Hid (Bld w' B B (regsL p k') ∧ Below B w1 w')) := fun w' h m => ⟨k + 1, by omega, by simp, h, m⟩
    have Hlen : Hid ((regsL p k).length + (regL (p.log k) (p.sec k)).length ≤ 140737488355328) := by
     have h1 := J32 p k
     have h2 := J5i (p.log k) (p.sec k)
     show _ ≤ _
     omega
    obtain ⟨lg, Hlg⟩ : ∃ x, Hid (p.log k = x) := ⟨_, rfl⟩
    obtain ⟨sec, Hsec⟩ : ∃ x, Hid (p.sec k = x) := ⟨_, rfl⟩
    rw [Hlg.out] at q0 CX Hnx Hlen
    rw [Hsec.out] at q1 CX Hnx Hlen
    obtain ⟨W3, HW3⟩ : ∃ w_ : World, Hid (w_ = wr.alloc (.cells #[V lg, .bool sec] 76)) := ⟨_, rfl⟩
    have Hm3 : Hid (More wr W3) := HW3.out ▸ (More.refl _).alloc _ _
    have HL3 : Hid (Lai W3) := HL.out.more ((HM.out wr Hr.out.2).1.trans Hm3.out)
    clear CI1 HP CR
    go_wp2_with (fail)
    rw [← HW3.out]
    refine (CX.out W3 HL3.out).mono ?_
    rintro e w3 ⟨d, rfl, hd, hdz, m3⟩
    have Hm4 : Hid (More wr w3) := Hm3.out.trans m3
    have CZ := J04 (CWr.out _ _ d w3 hd (J3q Hr.out.1 Hm4.out) Hlen.out ((HM.out w3 (Hr.out.2.trans (Below.mono Hm4.out (HM.out wr Hr.out.2).2))).2))
    clear m3 hd CX q0 q1 CWr
    go_wp2_with (fail)
    refine CZ.out.mono ?_
    rintro e w4 ⟨n4, rfl, h4, b4⟩
    have HN := J04 (Hnx.out w4 h4 ((Hr.out.2.trans (Below.mono Hm4.out (HM.out wr Hr.out.2).2)).trans b4))
    clear CZ Hnx h4 b4
    go_wp2
    go_roundg g
    case measure => omega
    case rel => exact HN.out
theorem SIn.spar {w w' : World} {sa : Option Addr} {sb so : Nat} {L : List Int} (h : SIn w sa sb so L) (ht : 0 < L.length → OfType w (some sb) 3) (s : Spar w w') : SIn w' sa sb so L := ⟨h.ha, fun j c hc => by
 have h0 : 0 < L.length := Nat.lt_of_le_of_lt (Nat.zero_le _) (List.getElem?_eq_some_iff.1 hc).1
 obtain ⟨cur, fz, q⟩ := ht h0 sb rfl
 have q' := s sb _ q (fun c t f e => by
  injection e with _ k _
  subst k
  exact not5 (by decide) (by decide) (by decide) (by decide) (by decide))
 have := h.cells j c hc
 rw [cell_of_row _ _ _ _ _ _ q] at this
 rw [cell_of_row _ _ _ _ _ _ q']
 exact this⟩
theorem OfType.more {w w' : World} {row : Option Nat} {T : TypeId} (h : OfType w row T) (m : More w w') : OfType w' row T := fun r e => by
 obtain ⟨cur, fz, q⟩ := h r e
 exact ⟨cur, fz, J1j m q⟩
theorem J85 {p : Prg} {l : KV} : ∀ n a, (scanK p l n a).1 = 0 → scanK p l n a = (0, 0)
 | 0, a, _ => rfl
 | n + 1, a, h => by
  rw [scanK] at h ⊢
  cases e : l a with
  | none =>
   rw [e] at h
   exact J85 n (a + 1) h
  | some s =>
   rw [e] at h
   dsimp only at h ⊢
   by_cases q : J2q p a s = 0
   ·rw [if_pos q] at h ⊢; exact J85 n (a + 1) h
   ·rw [if_neg q] at h; exact absurd h q
theorem Jis {p : Prg} {f : Int × Int} (h : Told p f) (h0 : f.1 = 0) : f = (0, 0) := by
 rcases h with ⟨_, rfl⟩ | ⟨_, l, _, rfl⟩
 ·exact absurd h0 (by decide)
 ·exact J85 _ _ h0
theorem SIn.tail {w : World} {vb vc : Nat} {f : Int} {l : List Int} (h : SIn w (some ⟨vb, 0, none⟩) vb 0 (f :: l)) (hc : l.length + 1 ≤ vc) : SIn w (if vc = 1 then some ⟨vb, 0, none⟩ else some ⟨vb, 1, none⟩) vb 1 l := by
 refine ⟨fun h0 => by rw [if_neg (by omega)], fun j c hj => ?_⟩
 have := h.cells (j + 1) c (by simpa using hj)
 rw [show (0 : Nat) + (j + 1) = 1 + j by omega] at this
 exact this
theorem Jlb {h : List UInt8} {L : List Int} {x y : Sta} {a : List UInt8} (k : WordTo h (L.take 2002) x y a) (w : Wf x) : WordTo h L x y a := by
 by_cases hL : 2002 < L.length
 ·exact k.long w hL
 ·rw [List.take_of_length_le (by omega)] at k; exact k
theorem Jnk {h : List UInt8} {L : List Int} {x : Sta} (n : ¬ Jav h L.length) : WordTo h L x x [63] := by
 have no : No x x [63] := ⟨rfl, rfl⟩
 have ne : ¬ L.length = 0 → ¬ L = [] := fun h e => h (by rw [e]; rfl)
 by_cases hw : J45 h
 ·rcases hw with rfl | rfl | rfl | rfl | rfl | rfl | rfl | rfl | rfl | rfl
  ·exact J82 (.inr ⟨fun e => n (.inr (.inr (.inl ⟨rfl, e⟩))), no⟩)
  ·exact Jcn (.inr ⟨fun ⟨r, l, e, _⟩ => n (.inr (.inr (.inr (.inr ⟨.inl rfl, by rw [e]; simp⟩)))), no⟩)
  ·exact Jd8 (.inr ⟨fun ⟨r, e, _⟩ => n (.inr (.inl ⟨.inr rfl, by rw [e]; rfl⟩)), no⟩)
  ·exact Jho (.inr ⟨fun e => n (.inr (.inr (.inr (.inl ⟨rfl, e.1⟩)))), no⟩)
  ·exact Jij (.inr ⟨fun e => n (.inr (.inl ⟨.inl rfl, e⟩)), no⟩)
  ·refine J9l (.inr ⟨?_, no⟩)
   cases L with
   | nil => rfl
   | cons a l => exact absurd (.inr (.inr (.inr (.inr ⟨.inr rfl, by simp⟩)))) n
  ·exact J9p (.inr ⟨ne (fun e => n (.inl ⟨.inl rfl, e⟩)), no⟩)
  ·exact Jcs (.inr ⟨ne (fun e => n (.inl ⟨.inr (.inl rfl), e⟩)), no⟩)
  ·exact Je0 (.inr ⟨ne (fun e => n (.inl ⟨.inr (.inr (.inr rfl)), e⟩)), no⟩)
  ·exact Jd7 (.inr ⟨ne (fun e => n (.inl ⟨.inr (.inr (.inl rfl)), e⟩)), no⟩)
 ·exact Jaa hw no
theorem len1 {L : List Int} (h : L.length = 1) : ∃ a, L = [a] := by
 match L, h with
 | [a], _ => exact ⟨a, rfl⟩
theorem len2 {L : List Int} (h : L.length = 2) : ∃ a b, L = [a, b] := by
 match L, h with
 | [a, b], _ => exact ⟨a, b, rfl⟩
theorem len5 {L : List Int} (h : L.length = 5) : ∃ a b c d e, L = [a, b, c, d, e] := by
 match L, h with
 | [a, b, c, d, e], _ => exact ⟨a, b, c, d, e, rfl⟩
theorem len0 {L : List Int} (h : L.length = 0) : L = [] := List.eq_nil_of_length_eq_zero h

set_option maxHeartbeats 16000000 in
theorem Jb0 {B G : Nat} {x : Sta} {rv cv mv : Value} (l : List UInt8) (w : World) (h0 : Dp B G x rv cv mv w) (hw : Wf x) (HL0 : LaiG G w) (hl : l.length < 4611686018427387904) :
  Calls Tryz.prog 21 #[.pointer (some ⟨G, 0, none⟩), .string (txt l)] w fun e w' => ∃ y a, e = .returned (.string (txt a)) ∧ SLineTo x l y a ∧ DAns B G w y w' := by
 suffices hP : ∀ P : Ending → World → Prop, (∀ y a w', SLineTo x l y a → DAns B G w y w' → P (.returned (.string (txt a))) w') → Calls Tryz.prog 21 #[.pointer (some ⟨G, 0, none⟩), .string (txt l)] w P from hP _ (fun y a w' h m => ⟨y, a, rfl, h, m⟩)
 intro P hP0
 have HP : Hid (∀ y a w', SLineTo x l y a → DAns B G w y w' → P (.returned (.string (txt a))) w') := hP0
 have HL : Hid (LaiG G w) := HL0
 have Hw : Hid (Wf x) := hw
 have H : Hid (Dp B G x rv cv mv w) := h0
 have CR := J04 (Jgg l w HL0.toLaiE hl)
 obtain ⟨ss, Hss⟩ : ∃ z, Hid (txt l = z) := ⟨_, rfl⟩
 rw [Hss.out] at CR ⊢
 clear hP0 HL0 hw h0
 go_enter Tryz.func21, Tryz.ntmps21
 go_wp2_with (fail)
 refine CR.out.mono ?_
 rintro e w1 ⟨d, va, n, vc, ok, rfl, hr, m1⟩
 have Hm1 := J04 m1
 have HR := J04 hr
 clear CR hr m1
 cases ok with
 | false =>
  have HE : Hid (P (.returned (.string ⟨#[63]⟩)) w1) := by
   rcases HR.out with ⟨q, _⟩ | ⟨_, k, fs, e, no⟩
   ·cases q
   ·exact HP.out x [63] w1 ⟨k, fs, e, .inr ⟨no, rfl, rfl⟩⟩ (DAns.same H.out Hm1.out)
  clear HP HR
  go_wp2
  exact HE.out
 | true =>
  obtain ⟨h, fs, L0, vb, hs, hnum, hd, hn, hcap, hsin, hty⟩ : ∃ h fs L vb, J0e 32 l = h :: fs ∧ NumsR fs L ∧ d = txt h ∧ n = (L.take 2002).length ∧ n ≤ vc ∧ SIn w1 va vb 0 (L.take 2002) ∧ (0 < n → OfType w1 (some vb) 3) := by
   rcases HR.out with ⟨_, q⟩ | ⟨q, _⟩
   ·exact q
   ·cases q
  have HQ : Hid (∀ y a w', WordTo h (L0.take 2002) x y a → DAns B G w1 y w' → P (.returned (.string (txt a))) w') := fun y a w' k da => HP.out y a w' ⟨h, fs, hs, .inl ⟨L0, hnum, Jlb k Hw.out⟩⟩ ⟨da.ply, (Below.mono Hm1.out (Nat.le_of_lt H.out.blk.lt)).trans da.low, (Spar.of Hm1.out).trans da.spar⟩
  have Hbn : Hid (∀ v ∈ L0.take 2002, -999999 ≤ v ∧ v ≤ 999999) := fun v hv => hnum.2 v (List.mem_of_mem_take hv)
  have H1 : Hid (Dp B G x rv cv mv w1) := H.out.more Hm1.out
  have HL1 : Hid (LaiG G w1) := HL.out.low (Below.mono Hm1.out (Nat.le_of_lt H.out.blk.lt))
  obtain ⟨L, HL'⟩ : ∃ L, Hid (L0.take 2002 = L) := ⟨_, rfl⟩
  rw [HL'.out] at HQ hsin hn Hbn
  have hn2 : n ≤ 2002 := by have := congrArg List.length HL'.out; simp at this; omega
  have HSI : Hid (SIn w1 va vb 0 L ∧ (0 < L.length → OfType w1 (some vb) 3) ∧ n ≤ vc ∧ n = L.length) := ⟨hsin, fun q => hty (by omega), hcap, hn⟩
  have CT := J04 (Jdu h n w1)
  rw [← hd] at CT
  have Hd := J04 hd
  have Hn := J04 hn
  clear HP HR hs hnum hsin hty hcap HL' H HL Hm1 hd hn
  go_wp2_with (fail)
  refine CT.out.mono ?_
  rintro e w2 ⟨b, rfl, hb, rfl⟩
  have HB := J04 hb
  clear CT hb
  cases b with
  | false =>
   have HE : Hid (P (.returned (.string ⟨#[63]⟩)) w2) := HQ.out x [63] w2 (Jnk (fun q => absurd (HB.out.2 (by rw [Hn.out]; exact q)) (by simp))) (DAns.same H1.out (More.refl _))
   clear HQ HB
   go_wp2
   exact HE.out
  | true =>
   have ht : Jav h n := HB.out.1 rfl
   obtain ⟨lp, Hrv, Hcv, hpin⟩ := H1.out.pin
   obtain ⟨gs, hgs⟩ := H1.out.mem
   obtain ⟨ml, Hmv, hraw⟩ := hgs.raw
   have HPI : Hid (rv = .slice lp.ra x.rs.length lp.rc ∧ cv = .slice lp.ca x.cs.length lp.cc ∧ mv = .slice ml.ma x.ms.length ml.mc ∧ PIn w2 x.prg lp ∧ MRaw w2 x.mem ml) := ⟨Hrv, Hcv, Hmv, hpin, hraw⟩
   clear Hrv Hcv hpin gs hgs Hmv hraw HB
   rcases ht with ⟨hh, rfl⟩ | ⟨hh, rfl⟩ | ⟨hh, rfl⟩ | ⟨hh, rfl⟩ | ⟨hh, hn1⟩
   ·obtain rfl := len0 Hn.out.symm
    rcases hh with rfl | rfl | rfl | rfl
    ·have hdc : d = ⟨#[99, 104, 101, 99, 107]⟩ := Hd.out
     subst hdc
     clear Hd
     have CX : Hid (Calls Tryz.prog 14 #[.agg #[.slice lp.ra x.rs.length lp.rc, .slice lp.ca x.cs.length lp.cc]] w2 fun e w' => ∃ f : Int × Int, Told x.prg f ∧ e = .returned (.agg #[V f.1, V f.2]) ∧ More w2 w') := J93 x.prg lp w2 HPI.out.2.2.2.1 Hw.out.fit
     obtain ⟨ra, Hra⟩ : ∃ z, Hid (lp.ra = z) := ⟨_, rfl⟩
     obtain ⟨rc, Hrc⟩ : ∃ z, Hid (lp.rc = z) := ⟨_, rfl⟩
     obtain ⟨rl, Hrl⟩ : ∃ z, Hid (x.rs.length = z) := ⟨_, rfl⟩
     obtain ⟨ca, Hca⟩ : ∃ z, Hid (lp.ca = z) := ⟨_, rfl⟩
     obtain ⟨cc, Hcc⟩ : ∃ z, Hid (lp.cc = z) := ⟨_, rfl⟩
     obtain ⟨cl, Hcl⟩ : ∃ z, Hid (x.cs.length = z) := ⟨_, rfl⟩
     rw [Hra.out, Hrc.out, Hrl.out, Hca.out, Hcc.out, Hcl.out] at CX
     have b0 : w2.cell? ⟨G, 0, none⟩ = some (.slice ra rl rc) := by have := H1.out.blk.cell (j := 0) rfl; rw [this, HPI.out.1, Hra.out, Hrc.out, Hrl.out]; rfl
     have b1 : w2.cell? ⟨G, 1, none⟩ = some (.slice ca cl cc) := by have := H1.out.blk.cell (j := 1) rfl; rw [this, HPI.out.2.1, Hca.out, Hcc.out, Hcl.out]; rfl
     go_wp2_with (fail)
     refine CX.out.mono ?_
     rintro e w3 ⟨⟨f1, f2⟩, ht, rfl, m3⟩
     have hb := ht.b64 Hw.out.cl
     have CY := J04 (J8o f1 f2 w3 (HL1.out.toLai.more m3) hb.1 hb.2)
     have HE : Hid (∀ w', More w2 w' → P (.returned (.string (txt (fauL (f1, f2) okW)))) w') := fun w' m => HQ.out x _ w' (J9p (.inl ⟨rfl, rfl, (f1, f2), ht, rfl⟩)) (DAns.same H1.out m)
     obtain ⟨R, HRR⟩ : ∃ R, Hid (txt (fauL (f1, f2) okW) = R) := ⟨_, rfl⟩
     rw [HRR.out] at CY HE
     have Hm3 := J04 m3
     clear CX ht hb m3 HRR HQ
     go_wp2_with (fail)
     refine CY.out.mono ?_
     rintro e w4 ⟨rfl, m4⟩
     have HF := J04 (HE.out w4 (Hm3.out.trans m4))
     clear CY m4 HE
     go_wp2
     exact HF.out
    ·have hdc : d = ⟨#[104, 97, 114, 100]⟩ := Hd.out
     subst hdc
     clear Hd
     have CX := J04 (Jb9 w2 H1.out Hw.out HL1.out)
     go_wp2_with (fail)
     refine CX.out.mono ?_
     rintro e w3 ⟨y, r, rfl, ht, da⟩
     have HF := J04 (HQ.out y r w3 (Jcs ht) da)
     obtain ⟨R, HRR⟩ : ∃ R, Hid (txt r = R) := ⟨_, rfl⟩
     rw [HRR.out] at HF ⊢
     clear CX ht da HQ
     go_wp2
     exact HF.out
    ·have hdc : d = ⟨#[108, 111, 97, 100]⟩ := Hd.out
     subst hdc
     clear Hd
     have CX : Hid (Calls Tryz.prog 18 #[.agg #[.slice lp.ra x.rs.length lp.rc, .slice lp.ca x.cs.length lp.cc]] w2 fun e w' => ∃ (f : Int × Int) (a : Option Addr) (k c : Nat), Told x.prg f ∧ e = .returned (.tuple #[.slice a k c, .agg #[V f.1, V f.2]]) ∧ (f.1 = 0 → k = (fitP (hardP x.prg)).cl) ∧ k < 4611686018427387904 ∧ More w2 w') := by
      refine (Jg0 x.prg lp w2 HPI.out.2.2.2.1 Hw.out.fit).mono ?_
      rintro e w' ⟨f, ht, m, ⟨h0, g, c, rfl, _⟩ | ⟨h0, rfl⟩⟩
      ·have ok := (ht.ok h0).1
       have hf := Jis ht h0
       exact ⟨f, _, _, _, ht, by rw [hf], fun _ => rfl, by have := (Jlx ok Hw.out.fit).2.2.1; omega, m⟩
      ·exact ⟨f, none, 0, 0, ht, rfl, fun q => absurd q h0, by decide, m⟩
     obtain ⟨ra, Hra⟩ : ∃ z, Hid (lp.ra = z) := ⟨_, rfl⟩
     obtain ⟨rc, Hrc⟩ : ∃ z, Hid (lp.rc = z) := ⟨_, rfl⟩
     obtain ⟨rl, Hrl⟩ : ∃ z, Hid (x.rs.length = z) := ⟨_, rfl⟩
     obtain ⟨ca, Hca⟩ : ∃ z, Hid (lp.ca = z) := ⟨_, rfl⟩
     obtain ⟨cc, Hcc⟩ : ∃ z, Hid (lp.cc = z) := ⟨_, rfl⟩
     obtain ⟨cl, Hcl⟩ : ∃ z, Hid (x.cs.length = z) := ⟨_, rfl⟩
     rw [Hra.out, Hrc.out, Hrl.out, Hca.out, Hcc.out, Hcl.out] at CX
     have b0 : w2.cell? ⟨G, 0, none⟩ = some (.slice ra rl rc) := by have := H1.out.blk.cell (j := 0) rfl; rw [this, HPI.out.1, Hra.out, Hrc.out, Hrl.out]; rfl
     have b1 : w2.cell? ⟨G, 1, none⟩ = some (.slice ca cl cc) := by have := H1.out.blk.cell (j := 1) rfl; rw [this, HPI.out.2.1, Hca.out, Hcc.out, Hcl.out]; rfl
     go_wp2_with (fail)
     refine CX.out.mono ?_
     rintro e w3 ⟨⟨f1, f2⟩, a3, k3, c3, ht, rfl, hk, hk3, m3⟩
     have hb := ht.b64 Hw.out.cl
     have CY := J04 (J9s a3 k3 c3 f1 f2 w3 (HL1.out.toLai.more m3) hb.1 hb.2 hk3)
     have HE : Hid (∀ w', More w2 w' → P (.returned (.string (txt (fauL (f1, f2) (ansL okW [(k3 : Int)]))))) w') := fun w' m => HQ.out x _ w' (Jd7 (.inl ⟨rfl, rfl, (f1, f2), ht, by
      unfold fauL
      by_cases h0 : f1 = 0
      ·rw [if_pos h0, if_pos h0, hk h0]
      ·rw [if_neg h0, if_neg h0]⟩)) (DAns.same H1.out m)
     obtain ⟨R, HRR⟩ : ∃ R, Hid (txt (fauL (f1, f2) (ansL okW [(k3 : Int)])) = R) := ⟨_, rfl⟩
     rw [HRR.out] at CY HE
     have Hm3 := J04 m3
     clear CX ht hb m3 HRR HQ hk hk3
     go_wp2_with (fail)
     refine CY.out.mono ?_
     rintro e w4 ⟨rfl, m4⟩
     have HF := J04 (HE.out w4 (Hm3.out.trans m4))
     clear CY m4 HE
     go_wp2
     exact HF.out
    ·have hdc : d = ⟨#[116, 101, 120, 116]⟩ := Hd.out
     subst hdc
     clear Hd
     have CX : Hid (Calls Tryz.prog 17 #[.agg #[.slice lp.ra x.rs.length lp.rc, .slice lp.ca x.cs.length lp.cc]] w2 fun e w' => ∃ (s : ByteArray) (c : Int), e = .returned (.tuple #[.string s, V c]) ∧ ((x.prg.Ok 8000 10 ∧ s = txt (textL x.prg) ∧ c = 0) ∨ (¬ x.prg.Ok 8000 10 ∧ s = txt [] ∧ c = 2)) ∧ More w2 w') := by
      refine (Jde x.prg lp w2 HL1.out.toLai HPI.out.2.2.2.1 Hw.out.fit).mono ?_
      rintro e w' ⟨m, ⟨ok, rfl⟩ | ⟨ok, rfl⟩⟩
      ·exact ⟨_, _, rfl, .inl ⟨ok, rfl, rfl⟩, m⟩
      ·exact ⟨_, _, rfl, .inr ⟨ok, rfl, rfl⟩, m⟩
     obtain ⟨ra, Hra⟩ : ∃ z, Hid (lp.ra = z) := ⟨_, rfl⟩
     obtain ⟨rc, Hrc⟩ : ∃ z, Hid (lp.rc = z) := ⟨_, rfl⟩
     obtain ⟨rl, Hrl⟩ : ∃ z, Hid (x.rs.length = z) := ⟨_, rfl⟩
     obtain ⟨ca, Hca⟩ : ∃ z, Hid (lp.ca = z) := ⟨_, rfl⟩
     obtain ⟨cc, Hcc⟩ : ∃ z, Hid (lp.cc = z) := ⟨_, rfl⟩
     obtain ⟨cl, Hcl⟩ : ∃ z, Hid (x.cs.length = z) := ⟨_, rfl⟩
     rw [Hra.out, Hrc.out, Hrl.out, Hca.out, Hcc.out, Hcl.out] at CX
     have b0 : w2.cell? ⟨G, 0, none⟩ = some (.slice ra rl rc) := by have := H1.out.blk.cell (j := 0) rfl; rw [this, HPI.out.1, Hra.out, Hrc.out, Hrl.out]; rfl
     have b1 : w2.cell? ⟨G, 1, none⟩ = some (.slice ca cl cc) := by have := H1.out.blk.cell (j := 1) rfl; rw [this, HPI.out.2.1, Hca.out, Hcc.out, Hcl.out]; rfl
     go_wp2_with (fail)
     refine CX.out.mono ?_
     rintro e w3 ⟨s3, c3, rfl, ht, m3⟩
     have hs3 : s3.size < 4611686018427387904 ∧ B64 c3 := by
      rcases ht with ⟨ok, rfl, rfl⟩ | ⟨ok, rfl, rfl⟩
      ·refine ⟨?_, J1b⟩
       have h1 := J32 x.prg x.prg.rl
       have h2 := J4f x.prg x.prg.cl
       have h3 := ok.1.1
       have h4 := ok.2.2.1
       rw [J0h, textL, List.length_append]
       omega
      ·exact ⟨by decide, by unfold B64; decide⟩
     have CY := J04 (J8p s3 c3 w3 (HL1.out.toLai.more m3) hs3.2 hs3.1)
     have HE : Hid (∀ w', More w2 w' → P (.returned (.string (txt (if c3 = 0 then ansL okW [(s3.size : Int)] else ansL badW [c3])))) w') := fun w' m => HQ.out x _ w' (Je0 (.inl ⟨rfl, rfl, by
      rcases ht with ⟨ok, rfl, rfl⟩ | ⟨ok, rfl, rfl⟩
      ·exact .inl ⟨ok, by rw [if_pos rfl, J0h]⟩
      ·exact .inr ⟨ok, by rw [if_neg (by decide)]⟩⟩)) (DAns.same H1.out m)
     obtain ⟨R, HRR⟩ : ∃ R, Hid (txt (if c3 = 0 then ansL okW [(s3.size : Int)] else ansL badW [c3]) = R) := ⟨_, rfl⟩
     rw [HRR.out] at CY HE
     have Hm3 := J04 m3
     clear CX ht hs3 m3 HRR HQ
     go_wp2_with (fail)
     refine CY.out.mono ?_
     rintro e w4 ⟨rfl, m4⟩
     have HF := J04 (HE.out w4 (Hm3.out.trans m4))
     clear CY m4 HE
     go_wp2
     exact HF.out
   ·obtain ⟨f, rfl⟩ := len1 Hn.out.symm
    rcases hh with rfl | rfl
    ·have hdc : d = ⟨#[114, 117, 110]⟩ := Hd.out
     subst hdc
     clear Hd
     obtain rfl := HSI.out.1.ha (by simp)
     have CX : Hid (∀ w', More w2 w' → Calls Tryz.prog 11 #[.agg #[.slice lp.ra x.rs.length lp.rc, .slice lp.ca x.cs.length lp.cc], .slice ml.ma x.ms.length ml.mc, V f] w' fun e w'' => ∃ c, Wr1 x.prg x.mem [] f c ∧ ToldR c (playI x.prg x.mem f.toNat).fin (playI x.prg x.mem f.toNat).val (playI x.prg x.mem f.toNat).steps (playI x.prg x.mem f.toNat).seen.length w' e w'') := fun w' m => Jby x.prg lp x.mem ml f w' (HPI.out.2.2.2.1.more m) Hw.out.fit (HPI.out.2.2.2.2.more m) Hw.out.mwd
     obtain ⟨ra, Hra⟩ : ∃ z, Hid (lp.ra = z) := ⟨_, rfl⟩
     obtain ⟨rc, Hrc⟩ : ∃ z, Hid (lp.rc = z) := ⟨_, rfl⟩
     obtain ⟨rl, Hrl⟩ : ∃ z, Hid (x.rs.length = z) := ⟨_, rfl⟩
     obtain ⟨ca, Hca⟩ : ∃ z, Hid (lp.ca = z) := ⟨_, rfl⟩
     obtain ⟨cc, Hcc⟩ : ∃ z, Hid (lp.cc = z) := ⟨_, rfl⟩
     obtain ⟨cl, Hcl⟩ : ∃ z, Hid (x.cs.length = z) := ⟨_, rfl⟩
     rw [Hra.out, Hrc.out, Hrl.out, Hca.out, Hcc.out, Hcl.out] at CX
     have b0 : w2.cell? ⟨G, 0, none⟩ = some (.slice ra rl rc) := by have := H1.out.blk.cell (j := 0) rfl; rw [this, HPI.out.1, Hra.out, Hrc.out, Hrl.out]; rfl
     have b1 : w2.cell? ⟨G, 1, none⟩ = some (.slice ca cl cc) := by have := H1.out.blk.cell (j := 1) rfl; rw [this, HPI.out.2.1, Hca.out, Hcc.out, Hcl.out]; rfl
     obtain ⟨ma, Hma⟩ : ∃ z, Hid (ml.ma = z) := ⟨_, rfl⟩
     obtain ⟨mc, Hmc⟩ : ∃ z, Hid (ml.mc = z) := ⟨_, rfl⟩
     obtain ⟨mn, Hmn⟩ : ∃ z, Hid (x.ms.length = z) := ⟨_, rfl⟩
     rw [Hma.out, Hmc.out, Hmn.out] at CX
     have b2 : w2.cell? ⟨G, 2, none⟩ = some (.slice ma mn mc) := by have := H1.out.blk.cell (j := 2) rfl; rw [this, HPI.out.2.2.1, Hma.out, Hmc.out, Hmn.out]; rfl
     obtain ⟨S, HS⟩ : ∃ S : World → Prop, Hid (∀ w', S w' ↔ More w2 w') := ⟨_, fun _ => Iff.rfl⟩
     have HS0 : S w2.drew := (HS.out _).2 (More.refl _).drew
     have hne : Nonempty { w' // S w' } := ⟨⟨_, HS0⟩⟩
     have k0 : ∀ i : { w' // S w' }, i.val.cell? ⟨vb, 0, none⟩ = some (V f) := fun i => ((HS.out _).1 i.property).cell (by have := HSI.out.1.cells 0 f rfl; simpa using this)
     have k1 : ∀ i : { w' // S w' }, i.val.cell? ⟨G, 0, none⟩ = some (.slice ra rl rc) := fun i => ((HS.out _).1 i.property).cell b0
     have k2 : ∀ i : { w' // S w' }, i.val.cell? ⟨G, 1, none⟩ = some (.slice ca cl cc) := fun i => ((HS.out _).1 i.property).cell b1
     have k3 : ∀ i : { w' // S w' }, i.val.cell? ⟨G, 2, none⟩ = some (.slice ma mn mc) := fun i => ((HS.out _).1 i.property).cell b2
     obtain ⟨wd, Hwd⟩ : ∃ wd : World, Hid (wd = w2.drew) := ⟨_, rfl⟩
     have Hmd : Hid (More w2 wd) := Hwd.out ▸ (More.refl _).drew
     go_wp2_with (fail)
     refine J03 (S := S) [(0, true), (1, true), (2, true), (3, true), (4, true), (5, true), (6, true), (7, true), (8, true), (9, true), (10, true), (11, false), (12, true), (13, true), (14, false), (15, true)] (by kernel_rfl) (by kernel_rfl) (by kernel_rfl) HS0 ?_
     rw [← Hwd.out]
     iterate 11 (refine J01 rfl (by kernel_rfl) (fun K hK => ?_); go_simp; refine hK _ _ ?_; clear hK K)
     refine J02 rfl (by kernel_rfl) (fun K hK => ?_); go_simp
     refine (CX.out wd Hmd.out).mono ?_
     rintro e w3 ⟨c3, hw3, x1, x2, x3, a4, k4, c4, u4, rfl, hx, m3⟩
     have Hm3 : Hid (More w2 w3) := Hmd.out.trans m3
     have hrb : c3 = 0 → RunB x1 x2 x3 k4 := fun q => by
      obtain ⟨rfl, rfl, rfl, rfl⟩ := hx q
      subst q
      exact Jn4 hw3 Hw.out.fit Hw.out.mwd
     have hc3 : B64 c3 := by
      rcases hw3 with ⟨_, rfl⟩ | ⟨_, _, rfl⟩ | ⟨_, _, _, rfl⟩ <;> (unfold B64; decide)
     have CY := J04 (J94 x1 x2 x3 c3 a4 k4 c4 u4 w3 (HL1.out.toLaiD.more Hm3.out) hc3 hrb)
     have HE : Hid (∀ w', More w2 w' → P (.returned (.string (txt (ranL c3 x1 x2 x3 k4)))) w') := fun w' m => HQ.out x _ w' (Jij (.inl ⟨f, rfl, rfl, c3, hw3, by
      by_cases q : c3 = 0
      ·obtain ⟨rfl, rfl, rfl, rfl⟩ := hx q
       rfl
      ·rw [ranL, if_neg q, ranL, if_neg q]⟩)) (DAns.same H1.out m)
     obtain ⟨R, HRR⟩ : ∃ R, Hid (txt (ranL c3 x1 x2 x3 k4) = R) := ⟨_, rfl⟩
     rw [HRR.out] at CY HE
     go_simp
     refine hK _ _ ((HS.out _).2 Hm3.out) ?_
     clear hK K CX hw3 hx m3 hrb hc3 HQ
     iterate 2 (refine J01 rfl (by kernel_rfl) (fun K hK => ?_); go_simp; refine hK _ _ ?_; clear hK K)
     refine J02 rfl (by kernel_rfl) (fun K hK => ?_); go_simp
     refine CY.out.mono ?_
     rintro e w4 ⟨rfl, m4⟩
     have HF := J04 (HE.out w4 (Hm3.out.trans m4))
     have hS4 : S w4 := (HS.out _).2 (Hm3.out.trans m4)
     go_simp
     refine hK _ _ hS4 ?_
     clear hK K CY m4 HE
     refine J01 rfl (by kernel_rfl) (fun K hK => ?_); go_simp; refine hK _ _ ?_; clear hK K
     refine J07 ?_
     clear hne HS0 hS4 k0 k1 k2 k3
     go_wp2
     exact HF.out
    ·have hdc : d = ⟨#[108, 111, 111, 107]⟩ := Hd.out
     subst hdc
     clear Hd
     obtain rfl := HSI.out.1.ha (by simp)
     have q0 : w2.cell? ⟨vb, 0, none⟩ = some (V f) := by have := HSI.out.1.cells 0 f rfl; simpa using this
     have CX := J04 (Jg1 f w2 H1.out Hw.out HL1.out.toLai)
     go_wp2_with (fail)
     refine CX.out.mono ?_
     rintro e w3 ⟨r, rfl, ht, m3⟩
     have HF := J04 (HQ.out x r w3 (Jd8 ht) (DAns.same H1.out m3))
     obtain ⟨R, HRR⟩ : ∃ R, Hid (txt r = R) := ⟨_, rfl⟩
     rw [HRR.out] at HF ⊢
     clear CX ht m3 HQ
     go_wp2
     exact HF.out
   ·obtain ⟨u, v, rfl⟩ := len2 Hn.out.symm
    subst hh
    have hdc : d = ⟨#[114, 101, 103, 105, 111, 110]⟩ := Hd.out
    subst hdc
    clear Hd
    obtain rfl := HSI.out.1.ha (by simp)
    obtain ⟨S, HS⟩ : ∃ S : World → Prop, Hid (∀ w', S w' ↔ SIn w' (some ⟨vb, 0, none⟩) vb 0 [u, v]) := ⟨_, fun _ => Iff.rfl⟩
    have HS0 : S w2.drew := (HS.out _).2 (HSI.out.1.more (More.refl _).drew)
    have hne : Nonempty { w' // S w' } := ⟨⟨_, HS0⟩⟩
    have k0 : ∀ i : { w' // S w' }, i.val.cell? ⟨vb, 0, none⟩ = some (V u) := fun i => by have := ((HS.out _).1 i.property).cells 0 u rfl; simpa using this
    have k1 : ∀ i : { w' // S w' }, i.val.cell? ⟨vb, 1, none⟩ = some (V v) := fun i => by have := ((HS.out _).1 i.property).cells 1 v rfl; simpa using this
    obtain ⟨wd, Hwd⟩ : ∃ wd : World, Hid (wd = w2.drew) := ⟨_, rfl⟩
    have Hmd : Hid (More w2 wd) := Hwd.out ▸ (More.refl _).drew
    have H2 : Hid (Dp B G x rv cv mv wd) := H1.out.more Hmd.out
    have HL2 : Hid (LaiG G wd) := HL1.out.low (Below.mono Hmd.out (Nat.le_of_lt H1.out.blk.lt))
    have HQ2 : Hid (∀ y z w', WordTo J5j [u, v] x y z → DAns B G wd y w' → P (.returned (.string (txt z))) w') := fun y z w' k da => HQ.out y z w' k ⟨da.ply, (Below.mono Hmd.out (Nat.le_of_lt H1.out.blk.lt)).trans da.low, (Spar.of Hmd.out).trans da.spar⟩
    have CX := J04 (J7e u v wd H2.out Hw.out HL2.out)
    go_wp2_with (fail)
    refine J03 (S := S) [(0, true), (1, true), (2, true), (3, true), (4, true), (5, true), (6, true), (7, false), (8, true)] (by kernel_rfl) (by kernel_rfl) (by kernel_rfl) HS0 ?_
    rw [← Hwd.out]
    iterate 7 (refine J01 rfl (by kernel_rfl) (fun K hK => ?_); go_simp; refine hK _ _ ?_; clear hK K)
    refine J02 rfl (by kernel_rfl) (fun K hK => ?_); go_simp
    refine CX.out.mono ?_
    rintro e w3 ⟨y, r, rfl, ht, da⟩
    have HF := J04 (HQ2.out y r w3 (J82 ht) da)
    have hS3 : S w3 := (HS.out _).2 ((HSI.out.1.more Hmd.out).spar (fun q => OfType.more (HSI.out.2.1 q) Hmd.out) da.spar)
    obtain ⟨R, HRR⟩ : ∃ R, Hid (txt r = R) := ⟨_, rfl⟩
    rw [HRR.out] at HF ⊢
    go_simp
    refine hK _ _ hS3 ?_
    clear hK K CX ht da HQ HQ2
    refine J01 rfl (by kernel_rfl) (fun K hK => ?_); go_simp; refine hK _ _ ?_; clear hK K
    refine J07 ?_
    clear hne HS0 hS3 k0 k1
    go_wp2
    exact HF.out
   ·obtain ⟨o, a, b, c, n, rfl⟩ := len5 Hn.out.symm
    subst hh
    have hdc : d = ⟨#[105, 110, 115]⟩ := Hd.out
    subst hdc
    clear Hd
    obtain rfl := HSI.out.1.ha (by simp)
    obtain ⟨S, HS⟩ : ∃ S : World → Prop, Hid (∀ w', S w' ↔ SIn w' (some ⟨vb, 0, none⟩) vb 0 [o, a, b, c, n]) := ⟨_, fun _ => Iff.rfl⟩
    have HS0 : S w2.drew := (HS.out _).2 (HSI.out.1.more (More.refl _).drew)
    have hne : Nonempty { w' // S w' } := ⟨⟨_, HS0⟩⟩
    have k0 : ∀ i : { w' // S w' }, i.val.cell? ⟨vb, 0, none⟩ = some (V o) := fun i => by have := ((HS.out _).1 i.property).cells 0 o rfl; simpa using this
    have k1 : ∀ i : { w' // S w' }, i.val.cell? ⟨vb, 1, none⟩ = some (V a) := fun i => by have := ((HS.out _).1 i.property).cells 1 a rfl; simpa using this
    have k2 : ∀ i : { w' // S w' }, i.val.cell? ⟨vb, 2, none⟩ = some (V b) := fun i => by have := ((HS.out _).1 i.property).cells 2 b rfl; simpa using this
    have k3 : ∀ i : { w' // S w' }, i.val.cell? ⟨vb, 3, none⟩ = some (V c) := fun i => by have := ((HS.out _).1 i.property).cells 3 c rfl; simpa using this
    have k4 : ∀ i : { w' // S w' }, i.val.cell? ⟨vb, 4, none⟩ = some (V n) := fun i => by have := ((HS.out _).1 i.property).cells 4 n rfl; simpa using this
    obtain ⟨wd, Hwd⟩ : ∃ wd : World, Hid (wd = w2.drew) := ⟨_, rfl⟩
    have Hmd : Hid (More w2 wd) := Hwd.out ▸ (More.refl _).drew
    have H2 : Hid (Dp B G x rv cv mv wd) := H1.out.more Hmd.out
    have HL2 : Hid (LaiG G wd) := HL1.out.low (Below.mono Hmd.out (Nat.le_of_lt H1.out.blk.lt))
    have HQ2 : Hid (∀ y z w', WordTo insW [o, a, b, c, n] x y z → DAns B G wd y w' → P (.returned (.string (txt z))) w') := fun y z w' k da => HQ.out y z w' k ⟨da.ply, (Below.mono Hmd.out (Nat.le_of_lt H1.out.blk.lt)).trans da.low, (Spar.of Hmd.out).trans da.spar⟩
    have CX := J04 (Jax o a b c n wd H2.out Hw.out HL2.out)
    go_wp2_with (fail)
    refine J03 (S := S) [(0, true), (1, true), (2, true), (3, true), (4, true), (5, true), (6, true), (7, true), (8, true), (9, true), (10, true), (11, true), (12, true), (13, true), (14, true), (15, true), (16, true), (17, false), (18, true)] (by kernel_rfl) (by kernel_rfl) (by kernel_rfl) HS0 ?_
    rw [← Hwd.out]
    iterate 17 (refine J01 rfl (by kernel_rfl) (fun K hK => ?_); go_simp; refine hK _ _ ?_; clear hK K)
    refine J02 rfl (by kernel_rfl) (fun K hK => ?_); go_simp
    refine CX.out.mono ?_
    rintro e w3 ⟨y, r, rfl, ht, da⟩
    have HF := J04 (HQ2.out y r w3 (Jho ht) da)
    have hS3 : S w3 := (HS.out _).2 ((HSI.out.1.more Hmd.out).spar (fun q => OfType.more (HSI.out.2.1 q) Hmd.out) da.spar)
    obtain ⟨R, HRR⟩ : ∃ R, Hid (txt r = R) := ⟨_, rfl⟩
    rw [HRR.out] at HF ⊢
    go_simp
    refine hK _ _ hS3 ?_
    clear hK K CX ht da HQ HQ2
    refine J01 rfl (by kernel_rfl) (fun K hK => ?_); go_simp; refine hK _ _ ?_; clear hK K
    refine J07 ?_
    clear hne HS0 hS3 k0 k1 k2 k3 k4
    go_wp2
    exact HF.out
   ·obtain ⟨f, l, rfl⟩ : ∃ f l, L = f :: l := by
     cases L with
     | nil => have := Hn.out; simp at this; omega
     | cons f l => exact ⟨f, l, rfl⟩
    rcases hh with rfl | rfl
    ·have hdc : d = ⟨#[102, 105, 108, 108]⟩ := Hd.out
     subst hdc
     clear Hd
     obtain ⟨sn, rfl⟩ : ∃ sn, n = sn + 1 := ⟨n - 1, by omega⟩
     have Hsn : Hid (l.length = sn ∧ sn + 1 ≤ vc) := ⟨by have := Hn.out; simp at this; omega, HSI.out.2.2.1⟩
     clear hn1
     obtain rfl := HSI.out.1.ha (by simp)
     have hs1 : (1 : Int) ≤ (sn : Int) + 1 := by omega
     obtain ⟨ta, hta⟩ : ∃ ta, (if vc = 1 then some (⟨vb, 0, none⟩ : Addr) else some ⟨vb, 1, none⟩) = ta := ⟨_, rfl⟩
     have HST : Hid (∀ w', SIn w' (some ⟨vb, 0, none⟩) vb 0 (f :: l) → SIn w' ta vb 1 l) := fun w' k => hta ▸ k.tail (by rw [Hsn.out.1]; exact Hsn.out.2)
     obtain ⟨S, HS⟩ : ∃ S : World → Prop, Hid (∀ w', S w' ↔ SIn w' (some ⟨vb, 0, none⟩) vb 0 (f :: l)) := ⟨_, fun _ => Iff.rfl⟩
     have HS0 : S w2.drew := (HS.out _).2 (HSI.out.1.more (More.refl _).drew)
     have hne : Nonempty { w' // S w' } := ⟨⟨_, HS0⟩⟩
     have k0 : ∀ i : { w' // S w' }, i.val.cell? ⟨vb, 0, none⟩ = some (V f) := fun i => by have := ((HS.out _).1 i.property).cells 0 f rfl; simpa using this
     obtain ⟨wd, Hwd⟩ : ∃ wd : World, Hid (wd = w2.drew) := ⟨_, rfl⟩
     have Hmd : Hid (More w2 wd) := Hwd.out ▸ (More.refl _).drew
     have H2 : Hid (Dp B G x rv cv mv wd) := H1.out.more Hmd.out
     have HL2 : Hid (LaiG G wd) := HL1.out.low (Below.mono Hmd.out (Nat.le_of_lt H1.out.blk.lt))
     have HQ2 : Hid (∀ y z w', WordTo fillW (f :: l) x y z → DAns B G wd y w' → P (.returned (.string (txt z))) w') := fun y z w' k da => HQ.out y z w' k ⟨da.ply, (Below.mono Hmd.out (Nat.le_of_lt H1.out.blk.lt)).trans da.low, (Spar.of Hmd.out).trans da.spar⟩
     have CX := J04 (Jfg f l ta vb 1 sn (vc - 1) wd H2.out Hw.out Hsn.out.1 (by omega) (HST.out _ (HSI.out.1.more Hmd.out)) (fun _ => OfType.more (HSI.out.2.1 (by simp)) Hmd.out))
     go_wp2_with (fail)
     refine J03 (S := S) [(0, true), (1, true), (2, true), (3, true), (4, true), (5, true), (6, false), (7, true)] (by kernel_rfl) (by kernel_rfl) (by kernel_rfl) HS0 ?_
     rw [← Hwd.out]
     iterate 6 (refine J01 rfl (by kernel_rfl) (fun K hK => ?_); go_simp; refine hK _ _ ?_; clear hK K)
     clear hta
     refine J02 rfl (by kernel_rfl) (fun K hK => ?_); go_simp
     refine CX.out.mono ?_
     rintro e w3 ⟨y, r, rfl, ht, da⟩
     have HF := J04 (HQ2.out y r w3 (Jcn ht) da)
     have hS3 : S w3 := (HS.out _).2 ((HSI.out.1.more Hmd.out).spar (fun q => OfType.more (HSI.out.2.1 q) Hmd.out) da.spar)
     obtain ⟨R, HRR⟩ : ∃ R, Hid (txt r = R) := ⟨_, rfl⟩
     rw [HRR.out] at HF ⊢
     go_simp
     refine hK _ _ hS3 ?_
     clear hK K CX ht da HQ HQ2
     refine J01 rfl (by kernel_rfl) (fun K hK => ?_); go_simp; refine hK _ _ ?_; clear hK K
     refine J07 ?_
     clear hne HS0 hS3 k0
     go_wp2
     exact HF.out
    ·have hdc : d = ⟨#[97, 104, 101, 97, 100]⟩ := Hd.out
     subst hdc
     clear Hd
     obtain ⟨sn, rfl⟩ : ∃ sn, n = sn + 1 := ⟨n - 1, by omega⟩
     have Hsn : Hid (l.length = sn ∧ sn + 1 ≤ vc) := ⟨by have := Hn.out; simp at this; omega, HSI.out.2.2.1⟩
     clear hn1
     obtain rfl := HSI.out.1.ha (by simp)
     have hs1 : (1 : Int) ≤ (sn : Int) + 1 := by omega
     obtain ⟨ta, hta⟩ : ∃ ta, (if vc = 1 then some (⟨vb, 0, none⟩ : Addr) else some ⟨vb, 1, none⟩) = ta := ⟨_, rfl⟩
     have HST : Hid (∀ w', SIn w' (some ⟨vb, 0, none⟩) vb 0 (f :: l) → SIn w' ta vb 1 l) := fun w' k => hta ▸ k.tail (by rw [Hsn.out.1]; exact Hsn.out.2)
     have CX : Hid (∀ w', More w2 w' → Calls Tryz.prog 13 #[.agg #[.slice lp.ra x.rs.length lp.rc, .slice lp.ca x.cs.length lp.cc], .slice ml.ma x.ms.length ml.mc, .slice ta sn (vc - 1), V f] w' fun e w'' => ∃ c, Wr1 x.prg x.mem l f c ∧ ToldR c (playS x.prg (flatM x.mem) l f.toNat).fin (playS x.prg (flatM x.mem) l f.toNat).val (playS x.prg (flatM x.mem) l f.toNat).steps (playS x.prg (flatM x.mem) l f.toNat).seen.length w' e w'') := fun w' m => Jai x.prg lp x.mem ml ta vb 1 sn (vc - 1) l f w' (HPI.out.2.2.2.1.more m) Hw.out.fit (HPI.out.2.2.2.2.more m) Hw.out.mwd Hsn.out.1 (by have := Hsn.out.2; omega) (HST.out _ (HSI.out.1.more m))
     obtain ⟨ra, Hra⟩ : ∃ z, Hid (lp.ra = z) := ⟨_, rfl⟩
     obtain ⟨rc, Hrc⟩ : ∃ z, Hid (lp.rc = z) := ⟨_, rfl⟩
     obtain ⟨rl, Hrl⟩ : ∃ z, Hid (x.rs.length = z) := ⟨_, rfl⟩
     obtain ⟨ca, Hca⟩ : ∃ z, Hid (lp.ca = z) := ⟨_, rfl⟩
     obtain ⟨cc, Hcc⟩ : ∃ z, Hid (lp.cc = z) := ⟨_, rfl⟩
     obtain ⟨cl, Hcl⟩ : ∃ z, Hid (x.cs.length = z) := ⟨_, rfl⟩
     rw [Hra.out, Hrc.out, Hrl.out, Hca.out, Hcc.out, Hcl.out] at CX
     have b0 : w2.cell? ⟨G, 0, none⟩ = some (.slice ra rl rc) := by have := H1.out.blk.cell (j := 0) rfl; rw [this, HPI.out.1, Hra.out, Hrc.out, Hrl.out]; rfl
     have b1 : w2.cell? ⟨G, 1, none⟩ = some (.slice ca cl cc) := by have := H1.out.blk.cell (j := 1) rfl; rw [this, HPI.out.2.1, Hca.out, Hcc.out, Hcl.out]; rfl
     obtain ⟨ma, Hma⟩ : ∃ z, Hid (ml.ma = z) := ⟨_, rfl⟩
     obtain ⟨mc, Hmc⟩ : ∃ z, Hid (ml.mc = z) := ⟨_, rfl⟩
     obtain ⟨mn, Hmn⟩ : ∃ z, Hid (x.ms.length = z) := ⟨_, rfl⟩
     rw [Hma.out, Hmc.out, Hmn.out] at CX
     have b2 : w2.cell? ⟨G, 2, none⟩ = some (.slice ma mn mc) := by have := H1.out.blk.cell (j := 2) rfl; rw [this, HPI.out.2.2.1, Hma.out, Hmc.out, Hmn.out]; rfl
     obtain ⟨S, HS⟩ : ∃ S : World → Prop, Hid (∀ w', S w' ↔ More w2 w') := ⟨_, fun _ => Iff.rfl⟩
     have HS0 : S w2.drew := (HS.out _).2 (More.refl _).drew
     have hne : Nonempty { w' // S w' } := ⟨⟨_, HS0⟩⟩
     have k0 : ∀ i : { w' // S w' }, i.val.cell? ⟨vb, 0, none⟩ = some (V f) := fun i => ((HS.out _).1 i.property).cell (by have := HSI.out.1.cells 0 f rfl; simpa using this)
     have k1 : ∀ i : { w' // S w' }, i.val.cell? ⟨G, 0, none⟩ = some (.slice ra rl rc) := fun i => ((HS.out _).1 i.property).cell b0
     have k2 : ∀ i : { w' // S w' }, i.val.cell? ⟨G, 1, none⟩ = some (.slice ca cl cc) := fun i => ((HS.out _).1 i.property).cell b1
     have k3 : ∀ i : { w' // S w' }, i.val.cell? ⟨G, 2, none⟩ = some (.slice ma mn mc) := fun i => ((HS.out _).1 i.property).cell b2
     obtain ⟨wd, Hwd⟩ : ∃ wd : World, Hid (wd = w2.drew) := ⟨_, rfl⟩
     have Hmd : Hid (More w2 wd) := Hwd.out ▸ (More.refl _).drew
     go_wp2_with (fail)
     refine J03 (S := S) [(0, true), (1, true), (2, true), (3, true), (4, true), (5, true), (6, true), (7, true), (8, true), (9, true), (10, true), (11, true), (12, true), (13, false), (14, true), (15, true), (16, false), (17, true)] (by kernel_rfl) (by kernel_rfl) (by kernel_rfl) HS0 ?_
     rw [← Hwd.out]
     iterate 13 (refine J01 rfl (by kernel_rfl) (fun K hK => ?_); go_simp; refine hK _ _ ?_; clear hK K)
     clear hta
     refine J02 rfl (by kernel_rfl) (fun K hK => ?_); go_simp
     refine (CX.out wd Hmd.out).mono ?_
     rintro e w3 ⟨c3, hw3, x1, x2, x3, a4, k4, c4, u4, rfl, hx, m3⟩
     have Hm3 : Hid (More w2 w3) := Hmd.out.trans m3
     have hrb : c3 = 0 → RunB x1 x2 x3 k4 := fun q => by
      obtain ⟨rfl, rfl, rfl, rfl⟩ := hx q
      subst q
      exact Jn5 hw3 Hw.out.fit Hw.out.mwd
     have hc3 : B64 c3 := by
      rcases hw3 with ⟨_, rfl⟩ | ⟨_, _, rfl⟩ | ⟨_, _, _, rfl⟩ <;> (unfold B64; decide)
     have CY := J04 (J94 x1 x2 x3 c3 a4 k4 c4 u4 w3 (HL1.out.toLaiD.more Hm3.out) hc3 hrb)
     have HE : Hid (∀ w', More w2 w' → P (.returned (.string (txt (ranL c3 x1 x2 x3 k4)))) w') := fun w' m => HQ.out x _ w' (J9l (.inl ⟨f, l, rfl, rfl, c3, hw3, by
      by_cases q : c3 = 0
      ·obtain ⟨rfl, rfl, rfl, rfl⟩ := hx q
       rfl
      ·rw [ranL, if_neg q, ranL, if_neg q]⟩)) (DAns.same H1.out m)
     obtain ⟨R, HRR⟩ : ∃ R, Hid (txt (ranL c3 x1 x2 x3 k4) = R) := ⟨_, rfl⟩
     rw [HRR.out] at CY HE
     go_simp
     refine hK _ _ ((HS.out _).2 Hm3.out) ?_
     clear hK K CX hw3 hx m3 hrb hc3 HQ
     iterate 2 (refine J01 rfl (by kernel_rfl) (fun K hK => ?_); go_simp; refine hK _ _ ?_; clear hK K)
     refine J02 rfl (by kernel_rfl) (fun K hK => ?_); go_simp
     refine CY.out.mono ?_
     rintro e w4 ⟨rfl, m4⟩
     have HF := J04 (HE.out w4 (Hm3.out.trans m4))
     have hS4 : S w4 := (HS.out _).2 (Hm3.out.trans m4)
     go_simp
     refine hK _ _ hS4 ?_
     clear hK K CY m4 HE
     refine J01 rfl (by kernel_rfl) (fun K hK => ?_); go_simp; refine hK _ _ ?_; clear hK K
     refine J07 ?_
     clear hne HS0 hS4 k0 k1 k2 k3
     go_wp2
     exact HF.out
end
end Go.Proofs.YtephohhigbfafaaGreatDoor
