/-
  The texts RCopy, RRun, RRun2, RMeth, RWord, RStep, one behind the other, with what is used of them.
-/
import Derived.Test.YtlbfbjeilfcjeaaGreatJoined8
import Derived.Test.YtlbfbjeilfcjeaaGreatJoined1
import Derived.Test.YtlbfbjeilfcjeaaGreatJoined9
import Derived.Test.YtlbfbjeilfcjeaaGreatJoined5
namespace Go.Proofs.YtlbfbjeilfcjeaaGreat
set_option maxHeartbeats 4000000
section
open Go.RowKit
set_option linter.unusedSimpArgs false
set_option linter.unusedVariables false
set_option maxRecDepth 8000
def pastM (q : Pl) (N : Nat) : Mem := ⟨N, fun j => (q.past j).length, fun j i => (q.past j).getD i 0⟩
theorem J6v (q : Pl) (N j : Nat) : J2i (pastM q N) j = ints (q.past j) := by
 apply List.ext_getElem?;intro i;by_cases hi : i < (q.past j).length
 ·rw [J46 (pastM q N) j i hi]
  simp [ints, pastM, hi]
 ·simp only [J2i, ints, pastM, List.getElem?_map]
  rw [List.getElem?_eq_none (by simp; omega), List.getElem?_eq_none (by omega)]
  rfl

def rowNo (R : Nat -> Nat) (c : Nat) : Nat -> Nat
 | 0 => 0
 | n + 1 => if R n = c then n + 1 else rowNo R c n
theorem J5k (R : Nat -> Nat) (c : Nat) : ∀ n, rowNo R c n ≠ 0 -> ∃ j, j < n /\ R j = c /\ rowNo R c n = j + 1
 | 0, h => absurd rfl h
 | n + 1, h => by
  unfold rowNo at h |-;by_cases e : R n = c
  ·rw [if_pos e]; exact ⟨n, by omega, e, rfl⟩
  ·rw [if_neg e] at h |-
   obtain ⟨j, h1, h2, h3⟩ := J5k R c n h;exact ⟨j, by omega, h2, h3⟩
theorem Jbu (R : Nat -> Nat) (c : Nat) : ∀ n j, j < n -> R j = c -> rowNo R c n ≠ 0
 | 0, j, h, _ => absurd h (Nat.not_lt_zero _)
 | n + 1, j, h, e => by
  unfold rowNo;by_cases e' : R n = c
  ·rw [if_pos e']; omega
  ·rw [if_neg e']
   have : j ≠ n := by rintro rfl; exact e' e
   exact Jbu R c n j (by omega) e

def labOf (K N : Nat) (g1 g2 g3 : Nat) (R : Nat -> Nat) : Nat -> Nat := fun c =>
 if c = g1 then K + 1 else if 0 < N /\ c = g2 then K + 2 else if 0 < N /\ c = g3 then K + 3 else if rowNo R c N ≠ 0 then K + 9 + rowNo R c N else 0
theorem Jbl {K N g1 g2 g3 : Nat} {R : Nat -> Nat} {c : Nat} (h : labOf K N g1 g2 g3 R c ≠ 0) : c = g1 \/ (0 < N /\ c = g2) \/ (0 < N /\ c = g3) \/ ∃ j, j < N /\ R j = c := by
 unfold labOf at h
 split at h
 ·left; assumption
 ·split at h
  ·right; left; assumption
  ·split at h
   ·right; right; left; assumption
   ·split at h
    ·rename_i h0
     obtain ⟨j, h1, h2, _⟩ := J5k R c N h0;exact .inr (.inr (.inr ⟨j, h1, h2⟩))
    ·exact absurd rfl h
theorem Je2 {K N g1 g2 g3 : Nat} {R : Nat -> Nat} (j : Nat) (hj : j < N) (h1 : R j ≠ g1) (h2 : R j ≠ g2) (h3 : R j ≠ g3) (ap : ∀ i j, i < N -> j < N -> i ≠ j -> R i ≠ R j) : labOf K N g1 g2 g3 R (R j) = K + 10 + j := by
 unfold labOf;have h0 := Jbu R (R j) N j hj rfl;rw [if_neg h1, if_neg (fun h => h2 h.2), if_neg (fun h => h3 h.2), if_pos h0];obtain ⟨i, k1, k2, k3⟩ := J5k R (R j) N h0
 have e : i = j := by
  rcases Nat.decEq i j with e | e
  ·exact absurd k2 (ap _ _ k1 hj e)
  ·exact e
 rw [k3, e]; omega

theorem Jeb {w : World} {lo N : Nat} {q : Pl} {g1 rc : Nat} {wa : Option Addr} {wc : Nat} {v : Value} {G C : Nat -> Nat} {s0 : Nat} (h1 : lo <= g1) (h1' : g1 < s0) (hs : s0 <= w.heap.size) (hr : RegsR w g1 q.r)
  (hw : w.ownsRow lo 2 1 (.slice wa N wc) N ((List.range N).map fun j => .int .i64 (q.wd j))) (hwb : ∀ b, (Value.slice wa N wc).ownBlock = some b -> b < s0 /\ b ≠ g1) (hc : CpAt w s0 (pastM q N) N v G C) (hlo : lo <= s0) (K : Nat) :
  ∃ pa pc a' lab', v = .slice pa N pc /\ a'.rg = g1 /\ a'.regs = .slice (some ⟨g1, 0, none⟩) 10 rc /\ a'.words N = .slice wa N wc /\ a'.past N = v /\ (∀ c, lab' c ≠ 0 -> lo <= c /\ c < w.heap.size) /\ PlL w lo N K lab' q a' := by
 obtain ⟨pa, pc, rfl⟩ := J27 hc.own;by_cases hN : 0 < N
 ·obtain ⟨g2, c2, e2, l2, l2'⟩ := World.ownsRow.form hw hN
  obtain ⟨g3, c3, e3, l3, l3'⟩ := World.ownsRow.form hc.own hN;have b2 := hwb g2 (by rw [e2]; rfl)
  have hcap : N <= wc := by
   rcases hw.2 with ⟨h, _⟩ | ⟨_, cap', _, h, _, _, hn, _⟩
   ·rw [e2] at h; cases h
   ·injection h with _ _ h3; omega
  rw [e2] at hw
  injection e2 with e2a _ _
  injection e3 with e3a _ e3c
  subst e2a e3a e3c;have gl : ∀ j, j < N -> s0 <= G j /\ G j < w.heap.size /\ G j ≠ g3 := fun j hj => ⟨((hc.row j hj).lt _ rfl).1, ((hc.row j hj).lt _ rfl).2, fun e => hc.apart j hj (by rw [e]; rfl)⟩
  have ap : ∀ i j, i < N -> j < N -> i ≠ j -> G i ≠ G j := hc.apart2;refine ⟨_, _, ⟨g1, rc, g2, some ⟨g2, 0, none⟩, wc, g3, some ⟨g3, 0, none⟩, pc, fun j => .slice (some ⟨G j, 0, none⟩) ((pastM q N).len j) (C j)⟩, labOf K N g1 g2 g3 G, rfl, rfl, rfl, rfl, rfl, fun c hc' => ?_, ?_⟩
  ·rcases Jbl hc' with rfl | ⟨_, rfl⟩ | ⟨_, rfl⟩ | ⟨j, hj, rfl⟩
   ·omega
   ·omega
   ·omega
   ·have := gl j hj; omega
  ·refine ⟨?_, hr, fun _ => ?_, fun _ => rfl, fun j hj => ⟨?_, World.ownsRow.frozenAt hw j⟩, fun _ => ?_, fun _ => rfl, fun j hj => ⟨?_, World.ownsRow.frozenAt hc.own j⟩, fun j hj => ?_, fun j hj b hb => ?_, hcap⟩
   ·unfold labOf; rw [if_pos rfl]
   ·unfold labOf; rw [if_neg b2.2, if_pos ⟨hN, rfl⟩]
   ·rw [World.ownsRow.cellAt hw j (by omega)]; simp [hj]
   ·unfold labOf; rw [if_neg (by dsimp only; omega), if_neg (by dsimp only; omega), if_pos ⟨hN, rfl⟩]
   ·rw [World.ownsRow.cellAt hc.own j (by omega)]; simp [hj]
   ·have := hc.row j hj
    rw [J6v] at this;refine ⟨this.1, ?_⟩;rcases this.2 with h | ⟨g, cap, cur, h, hb, hh⟩
    ·exact .inl h
    ·exact .inr ⟨g, cap, cur, h, by omega, hh⟩
   ·have hb' : b = G j := by simpa [Value.ownBlock] using hb.symm
    have := gl j hj;rw [hb'];exact Je2 j hj (by omega) (by omega) this.2.2 ap
 ·obtain rfl : N = 0 := by omega
  refine ⟨_, _, ⟨g1, rc, 0, wa, wc, 0, pa, pc, fun _ => .slice none 0 0⟩, labOf K 0 g1 0 0 G, rfl, rfl, rfl, rfl, rfl, fun c hc' => ?_, ?_⟩
  ·rcases Jbl hc' with rfl | ⟨h, _⟩ | ⟨h, _⟩ | ⟨j, hj, _⟩
   ·omega
   ·omega
   ·omega
   ·omega
  ·exact ⟨by unfold labOf; rw [if_pos rfl], hr, fun h => absurd h (by omega), fun h => absurd h (by omega), fun j hj => absurd hj (by omega), fun h => absurd h (by omega), fun h => absurd h (by omega), fun j hj => absurd hj (by omega), fun j hj => absurd hj (by omega), fun j hj => absurd hj (by omega), Nat.zero_le _⟩

theorem Jew {w : World} {g : Nat} {r : Nat -> Int} (h : RegsR w g r) : ∀ j u, ((List.range 10).map fun j => (Value.int .i64 (r j)))[j]? = some u -> w.cell? ((⟨g, 0, none⟩ : Addr).add j) = some u := by
 intro j u hu;have hj : j < 10 := by have := (List.getElem?_eq_some_iff.1 hu).1; simpa using this
 rw [Go.WideShapes.add_plain, Nat.zero_add];simp [hj] at hu;rw [<- hu];exact (h j hj).1
theorem Je4 (n : Nat) (f : Nat -> Int) : ∀ u ∈ (List.range n).map fun j => (Value.int .i64 (f j)), u.oneCell' = true := by
 intro u hu;simp only [List.mem_map] at hu;obtain ⟨i, _, rfl⟩ := hu
 rfl
theorem Jas {w : World} {lo : Nat} {g : Nat} {c : Nat} {r : Nat -> Int} (h : w.ownsRow lo 2 1 (.slice (some ⟨g, 0, none⟩) 10 c) 10 ((List.range 10).map fun j => .int .i64 (r j))) : RegsR w g r := fun j hj =>
 ⟨by rw [World.ownsRow.cellAt h j (by omega)]; simp [hj], World.ownsRow.frozenAt h j⟩

theorem J91 {a c : World} (h : a.grownBy c none) (row : Option Nat) : a.grownBy c row := ⟨h.os, h.tape, h.output, h.size, fun i hi _ => h.block i hi (by simp)⟩
theorem J1g {a b c : World} {row row' : Option Nat} (h : a.grownBy b row) (k : b.grownBy c row') (hr : ∀ j, row' = some j -> a.heap.size <= j) : a.grownBy c row :=
 ⟨k.os.trans h.os, k.tape.trans h.tape, k.output.trans h.output, Nat.le_trans h.size k.size, fun i hi hne => (k.block i (Nat.lt_of_lt_of_le hi h.size) (fun e => by have := hr i e.symm; omega)).trans (h.block i hi hne)⟩
theorem Jda {w : World} {g N : Nat} {f : Nat -> Int} (h : ∀ j, j < N -> Wr w g j (.int .i64 (f j))) : ∀ j u, ((List.range N).map fun j => (Value.int .i64 (f j)))[j]? = some u -> w.cell? ((⟨g, 0, none⟩ : Addr).add j) = some u := by
 intro j u hu;have hj : j < N := by have := (List.getElem?_eq_some_iff.1 hu).1; simpa using this
 rw [Go.WideShapes.add_plain, Nat.zero_add];simp [hj] at hu;rw [<- hu];exact (h j hj).1
theorem Jbv {w : World} {lo : Nat} {pv : Option Addr} {c : Nat} {l : List Int} (h : w.ownsRow lo 2 1 (.slice pv l.length c) l.length (ints l)) (h0 : 0 < l.length) : ∃ g, pv = some ⟨g, 0, none⟩ /\ g < w.heap.size /\ ∀ j u, (ints l)[j]? = some u -> w.cell? ⟨g, j, none⟩ = some u := by
 obtain ⟨g, cap, e, _, hl⟩ := World.ownsRow.form h h0
 injection e with e1 _ e3
 subst e1 e3;refine ⟨g, rfl, hl, fun j u hu => ?_⟩;have hj : j < l.length := by have := (List.getElem?_eq_some_iff.1 hu).1; rw [J6h] at this; exact this
 rw [World.ownsRow.cellAt h j (by omega)];exact hu
theorem CpAt.kept {w w' : World} {base : Nat} {m : Mem} {k : Nat} {v : Value} {G C : Nat -> Nat} (h : CpAt w base m k v G C) {b : Nat} (hg : w.grownBy w' (some b)) (hb : b < base) : CpAt w' base m k v G C :=
 ⟨World.ownsRow.kept h.own hg (by
  cases hv : v.ownBlock with
  | none => left; rfl
  | some c => right; intro e; have := (h.own.lt c hv).1; have := Option.some.inj e; omega), fun j hj => World.ownsRow.kept (h.row j hj) hg (by right; intro e; have := ((h.row j hj).lt _ rfl).1; have := Option.some.inj e; omega), h.apart, h.apart2⟩

theorem Jem (w : World) (lo N K0 : Nat) (lab : Nat -> Nat) (q : Pl) (a : PV) (h : PlL w lo N K0 lab q a) (hN : N <= 384) (hp : ∀ j, j < N -> (q.past j).length <= 100000) (K : Nat) :
  Calls Tryz.prog 63 #[.agg #[a.regs, a.words N, a.past N, .int .i64 q.at_]] w fun e w' => ∃ a' lab', e = .returned (.agg #[a'.regs, a'.words N, a'.past N, .int .i64 q.at_]) /\ More w w' /\ (∀ c, lab' c ≠ 0 -> w.heap.size <= c /\ c < w'.heap.size) /\ PlL w' w.heap.size N K lab' q a' := by
 obtain ⟨i0, hi, hz0, hz1, hz2⟩ := info_parts info2;obtain ⟨i1, hi', hz0', hz1', hz2'⟩ := info_parts Jim;have Hi : Hid (Tryz.prog.info? 2 = some i0 /\ i0.zero = some (.int .i64 0) /\ i0.size = 1 /\ i0.bytes = 8) := ⟨hi, hz0, hz1, hz2⟩;have Hi' : Hid (Tryz.prog.info? 65 = some i1 /\ i1.zero = some (.slice none 0 0) /\ i1.size = 1 /\ i1.bytes = 24) := ⟨hi', hz0', hz1', hz2'⟩;have H : Hid (PlL w lo N K0 lab q a /\ N <= 384 /\ ∀ j, j < N -> (q.past j).length <= 100000) := ⟨h, hN, hp⟩;clear h hN hp hi hz0 hz1 hz2 hi' hz0' hz1' hz2';obtain ⟨rg, rc, wg, wa, wc, pg, pa, pc, P⟩ := a;dsimp only [PV.regs, PV.words, PV.past];obtain ⟨at_, hat⟩ : ∃ n : Int, (q.at_ : Int) = n := ⟨_, rfl⟩;rw [hat];clear hat;have hrl : rg < w.heap.size := J05 (H.out.1.regs 0 (by omega)).1;have Hr : Hid (RegsR w rg q.r) := H.out.1.regs;obtain ⟨W, HW⟩ : ∃ W : World, Hid (((w.alloc (.cells #[.slice (some ⟨rg, 0, none⟩) 10 rc, .slice wa N wc, .slice pa N pc, .int .i64 at_] 74)).alloc (.cells #[.slice none 0 0, .slice none 0 0, .slice none 0 0, .int .i64 0] 74)).alloc (.cells #[.slice none 0 0, .slice none 0 0, .slice none 0 0, .int .i64 at_] 74) = W) := ⟨_, rfl⟩;have HM : Hid (More w W /\ W.heap.size = w.heap.size + 3) := by rw [<- HW.out]; exact ⟨(((More.refl _).alloc _ _).alloc _ _).alloc _ _, by simp⟩
 have HC : Hid ((Wr W w.heap.size 1 (.slice wa N wc) /\ Wr W w.heap.size 2 (.slice pa N pc)) /\ (Wr W (w.heap.size + 1) 0 (.slice none 0 0) /\ Wr W (w.heap.size + 1) 1 (.slice none 0 0) /\ Wr W (w.heap.size + 1) 2 (.slice none 0 0) /\ Wr W (w.heap.size + 1) 3 (.int .i64 0)) /\
   (Wr W (w.heap.size + 2) 0 (.slice none 0 0) /\ Wr W (w.heap.size + 2) 1 (.slice none 0 0) /\ Wr W (w.heap.size + 2) 2 (.slice none 0 0) /\ Wr W (w.heap.size + 2) 3 (.int .i64 at_))) := by
  rw [<- HW.out];exact ⟨⟨⟨by go_simp, by go_simp⟩, ⟨by go_simp, by go_simp⟩⟩, ⟨⟨by go_simp, by go_simp⟩, ⟨by go_simp, by go_simp⟩, ⟨by go_simp, by go_simp⟩, ⟨by go_simp, by go_simp⟩⟩, ⟨⟨by go_simp, by go_simp⟩, ⟨by go_simp, by go_simp⟩, ⟨by go_simp, by go_simp⟩, ⟨by go_simp, by go_simp⟩⟩⟩
 go_enter Tryz.func63, Tryz.ntmps63
 go_wp2_with (first
  | (at_builtin; refine J1r _ rfl (.tmp 9) (.tmp 11) 65 rfl w.heap.size 2 i0 (.int .i64 0) 1 8 Tryz.underlying65 Hi.out.1 Hi.out.2.1 Hi.out.2.2.1 Hi.out.2.2.2 rfl (by decide) (.slice none 0 0) 0 [] rfl (World.ownsRow_nil _ _ _ _) (some ⟨rg, 0, none⟩) 10 rc ((List.range 10).map fun j => .int .i64 (q.r j)) rfl (by simp) (fun _ => ⟨_, rfl, Jew (by repeat (first | exact Hr.out | apply RegsR.alloc))⟩) (Je4 _ _) (by unfold maxLen; omega) (by omega) (by simp; omega) ?_; rw [HW.out]; intro va1 c1 w2 own1 gr1 at1 nn1; obtain ⟨⟨⟨x1, _⟩, _⟩, _, ⟨y0, y0'⟩, ⟨y1, y1'⟩, _⟩ := HC.out; replace x1 := gr1.cell x1 (by simp [Value.ownBlock]); replace y0 := (Wr.kept gr1 ⟨y0, y0'⟩ (by simp [Value.ownBlock])); obtain ⟨y0, y0'⟩ := y0; replace y1 := (Wr.kept gr1 ⟨y1, y1'⟩ (by simp [Value.ownBlock])); obtain ⟨y1, y1'⟩ := y1; have H1 := J03 (And.intro own1 (And.intro gr1 at1)); clear own1 gr1 at1 nn1)
  | (at_builtin; go_loud (refine J1r _ rfl (.tmp 15) (.tmp 17) 65 rfl w.heap.size 2 i0 (.int .i64 0) 1 8 Tryz.underlying65 Hi.out.1 Hi.out.2.1 Hi.out.2.2.1 Hi.out.2.2.2 rfl (by decide) (.slice none 0 0) 0 [] rfl (World.ownsRow_nil _ _ _ _) wa N wc ((List.range N).map fun j => .int .i64 (q.wd j)) rfl (by simp) (fun h0 => ⟨⟨wg, 0, none⟩, H.out.1.wa h0, Jda (fun j hj => (((H.out.1.words j hj).kept (HM.out.1.grow none) (by simp)).kept H1.out.2.1 (by simp [Value.ownBlock])).other (w.heap.size + 1 + 1) 0 _ (.inl (by have := J05 (H.out.1.words j hj).1; dsimp only at this |-; omega)))⟩) (Je4 _ _) (by have := H.out.2.1; unfold maxLen; omega) (by have := H.out.2.1; omega) (by have h1 := H1.out.2.1.size; have h2 := HM.out.2; simp; omega) ?_; intro va2 c2 w3 own2 gr2 at2 nn2; have z1 := Wr.kept gr2 (Wr.other ⟨y1, y1'⟩ (w.heap.size + 2) 0 (.slice va1 10 c1) (by omega)) (by simp [Value.ownBlock]); obtain ⟨z1, z1'⟩ := z1; have H2 := J03 (And.intro own2 (And.intro gr2 at2)); clear own2 gr2 at2 nn2)))
 obtain ⟨WL, hWL⟩ : ∃ WL, w3.setCell ⟨w.heap.size + 1 + 1, 1, none⟩ (.slice va2 N c2) = WL := ⟨_, rfl⟩;rw [hWL]
 have HL : Hid ((W.grownBy WL (some (w.heap.size + 2)) /\ w.heap.size + 3 <= WL.heap.size) /\ (Wr WL (w.heap.size + 2) 0 (.slice va1 10 c1) /\ Wr WL (w.heap.size + 2) 1 (.slice va2 N c2) /\ Wr WL (w.heap.size + 2) 2 (.slice none 0 0) /\ Wr WL (w.heap.size + 2) 3 (.int .i64 at_)) /\
   WL.ownsRow w.heap.size 2 1 (.slice va1 10 c1) 10 ((List.range 10).map fun j => .int .i64 (q.r j)) /\ WL.ownsRow w.heap.size 2 1 (.slice va2 N c2) N ((List.range N).map fun j => .int .i64 (q.wd j)) /\
   (∀ b, (Value.slice va1 10 c1).ownBlock = some b -> b = w.heap.size + 3 /\ b < WL.heap.size) /\ (∀ b, (Value.slice va2 N c2).ownBlock = some b -> w.heap.size + 3 < b /\ b < WL.heap.size)) := by
  obtain ⟨own1, gr1, at1⟩ := H1.out;obtain ⟨own2, gr2, at2⟩ := H2.out;obtain ⟨hm, hs⟩ := HM.out;simp only [Nat.zero_add, List.nil_append] at own1 own2 at1 at2 gr1 gr2;have g1 : W.grownBy w2 (some (w.heap.size + 2)) := J91 gr1 _;have g2 := J0q w2 (w.heap.size + 1 + 1) 0 (.slice va1 10 c1);have g3 := J91 gr2 (some (w.heap.size + 2));have g4 := J0q w3 (w.heap.size + 1 + 1) 1 (.slice va2 N c2);rw [hWL] at g4;have hs1 := gr1.size;have hs2 := g2.size;have hs3 := gr2.size;have hs4 := g4.size;have hgb : WL.heap.size = w3.heap.size := by rw [<- hWL]; simp
  have b1 : ∀ b, (Value.slice va1 10 c1).ownBlock = some b -> b = w.heap.size + 3 := fun b hb => by
   rcases at1 b hb with h | h
   ·simp [Value.ownBlock] at h
   ·omega
  have l1 : ∀ b, (Value.slice va1 10 c1).ownBlock = some b -> b < w2.heap.size := fun b hb => (World.ownsRow.lt own1 b hb).2
  have b2 : ∀ b, (Value.slice va2 N c2).ownBlock = some b -> b = w2.heap.size := fun b hb => by
   rcases at2 b hb with h | h
   ·simp [Value.ownBlock] at h
   ·simpa using h
  have l2 : ∀ b, (Value.slice va2 N c2).ownBlock = some b -> b < w3.heap.size := fun b hb => (World.ownsRow.lt own2 b hb).2
  obtain ⟨gg1, cc1, e1, _⟩ := World.ownsRow.form own1 (by omega);have e1' := b1 gg1 (by rw [e1]; rfl);have e1'' := l1 gg1 (by rw [e1]; rfl);obtain ⟨y0, y1, y2, y3⟩ := HC.out.2.2;have k : ∀ o v, Wr W (w.heap.size + 2) o v -> Wr w2 (w.heap.size + 2) o v := fun o v h => h.kept gr1 (by simp [Value.ownBlock])
  have k3 : ∀ o v, Wr (w2.setCell ⟨w.heap.size + 1 + 1, 0, none⟩ (.slice va1 10 c1)) (w.heap.size + 2) o v -> Wr w3 (w.heap.size + 2) o v := fun o v h => h.kept gr2 (by simp [Value.ownBlock])
  refine ⟨⟨J0z (J0z (J0z g1 g2) g3) g4, by omega⟩, ⟨?_, ?_, ?_, ?_⟩, ?_, ?_, fun b hb => ⟨b1 b hb, by have := l1 b hb; omega⟩, fun b hb => ⟨by have := b2 b hb; omega, by have := l2 b hb; omega⟩⟩
  ·rw [<- hWL]; exact (k3 _ _ ((k _ _ y0).same _)).other _ _ _ (by omega)
  ·rw [<- hWL]; exact (k3 _ _ ((k _ _ y1).other _ _ _ (by omega))).same _
  ·rw [<- hWL]; exact (k3 _ _ ((k _ _ y2).other _ _ _ (by omega))).other _ _ _ (by omega)
  ·rw [<- hWL]; exact (k3 _ _ ((k _ _ y3).other _ _ _ (by omega))).other _ _ _ (by omega)
  ·refine World.ownsRow.kept (World.ownsRow.kept (World.ownsRow.kept own1 g2 ?_) gr2 ?_) g4 ?_
   ·right; rw [e1]; simp [Value.ownBlock]; omega
   ·right; rw [e1]; simp [Value.ownBlock]
   ·right; rw [e1]; simp [Value.ownBlock]; omega
  ·refine World.ownsRow.kept own2 g4 ?_
   cases hv : (Value.slice va2 N c2).ownBlock with
   | none => left; rfl
   | some b => right; have := b2 b hv; simp; omega
 clear hWL H1 H2 x1 y0 y0' y1 y1' z1 z1';go_wp2;go_loopg [4] N (fun g i wr => ∃ (k : Nat) (v : Value) (G C : Nat -> Nat), k + g = N /\ i = .int .i64 k /\ CpAt wr WL.heap.size (pastM q N) k v G C /\ WL.grownBy wr (some (w.heap.size + 2)) /\ Wr wr (w.heap.size + 2) 0 (.slice va1 10 c1) /\ Wr wr (w.heap.size + 2) 1 (.slice va2 N c2) /\ Wr wr (w.heap.size + 2) 2 v /\ Wr wr (w.heap.size + 2) 3 (.int .i64 at_))
 case atStart => exact ⟨0, _, _, _, by omega, rfl, CpAt.start _ _ _, J0j _ _, HL.out.2.1⟩
 case round =>
  obtain ⟨k, v, G, C, hkg, rfl, hc, hg, hw0, hw1, hw2, hw3⟩ := hrel;obtain ⟨xa, xc, rfl⟩ := J27 hc.own;have Hm := J03 (And.intro hc (And.intro hg (And.intro hw0 (And.intro hw1 (And.intro hw2 hw3)))));clear hc hg hw0 hw1 hw2 hw3;have xp : wr.cell? ⟨w.heap.size, 2, none⟩ = some (.slice pa N pc) := Hm.out.2.1.cell (HL.out.1.1.cell HC.out.1.2.1 (by simp)) (by simp);cases gk with
  | zero =>
   obtain rfl : k = N := by omega
   obtain ⟨_, _, ⟨q0, _⟩, ⟨q1, _⟩, ⟨q2, _⟩, ⟨q3, _⟩⟩ := Hm.out;have KR : ∀ o u, Wr W (w.heap.size + 1) o u -> Wr wr (w.heap.size + 1) o u := fun o u h => (h.kept HL.out.1.1 (by simp)).kept Hm.out.2.1 (by simp)
   obtain ⟨⟨r0, r0'⟩, ⟨r1, r1'⟩, ⟨r2, r2'⟩, ⟨r3, r3'⟩⟩ : Wr wr (w.heap.size + 1) 0 _ /\ Wr wr (w.heap.size + 1) 1 _ /\ Wr wr (w.heap.size + 1) 2 _ /\ Wr wr (w.heap.size + 1) 3 _ := ⟨KR _ _ HC.out.2.1.1, KR _ _ HC.out.2.1.2.1, KR _ _ HC.out.2.1.2.2.1, KR _ _ HC.out.2.1.2.2.2⟩;clear KR;go_wp2
   try simp only [Exit.inBlock, Exit.then]
   refine bodyPost_ret (v := .agg #[.slice va1 10 c1, .slice va2 k c2, .slice xa k xc, .int .i64 at_]) (by simp [results, Tryz.results63, go_sem, *]) rfl ?_;have hgf := J10 (J10 (J10 (J10 (J0j wr (some (w.heap.size + 1))) 0 (.slice va1 10 c1)) 1 (.slice va2 k c2)) 2 (.slice xa k xc)) 3 (.int .i64 at_);obtain ⟨hc, hg, _⟩ := Hm.out;obtain ⟨⟨gw, hs⟩, _, o1, o2, b1, b2⟩ := HL.out;obtain ⟨g1, cc1, e1, _⟩ := World.ownsRow.form o1 (by omega)
   injection e1 with e1a _ e1c
   subst e1a e1c;have hb1 := b1 g1 rfl;have o1' := World.ownsRow.kept (World.ownsRow.kept o1 hg (.inr (by simp [Value.ownBlock]; omega))) hgf (.inr (by simp [Value.ownBlock]; omega))
   have o2' := World.ownsRow.kept (World.ownsRow.kept o2 hg (by
    cases hv : (Value.slice va2 k c2).ownBlock with
    | none => left; rfl
    | some b => right; have := b2 b hv; simp; omega)) hgf (by
    cases hv : (Value.slice va2 k c2).ownBlock with
    | none => left; rfl
    | some b => right; have := b2 b hv; simp; omega)
   have hm : More w wr := (HM.out.1.grownBy gw (fun b hb => by have := Option.some.inj hb; omega)).grownBy hg (fun b hb => by have := Option.some.inj hb; omega);have hm' := hm.grownBy hgf (fun b hb => by have := Option.some.inj hb; omega);obtain ⟨pa', pc', a', lab', _, _, e2, e3, e4, hl, hpl⟩ := Jeb (rc := c1) (s0 := WL.heap.size) (by omega) hb1.2 (Nat.le_trans hg.size hgf.size) (Jas o1') o2' (fun b hb => ⟨(b2 b hb).2, by have := (b2 b hb).1; omega⟩) (hc.kept hgf (by omega)) (by omega) K;exact ⟨a', lab', by rw [show Value.slice (some ⟨a'.rg, 0, none⟩) 10 a'.rc = a'.regs from rfl, e2, show Value.slice a'.wa k a'.wc = a'.words k from rfl, e3, show Value.slice a'.pa k a'.pc = a'.past k from rfl, e4], hm', hl, hpl⟩
  | succ g =>
   have hk : k < N := by omega
   have hk' : (k : Int) < (N : Int) := by omega
   have hk0 : (0 : Int) <= (k : Int) := by omega
   have h0 : 0 < N := by omega
   have hpa : pa = some ⟨pg, 0, none⟩ := H.out.1.pa h0;subst hpa;have hpg : pg < w.heap.size := J05 (H.out.1.past k hk).1;obtain ⟨pv, pcap, hP⟩ := J27 (H.out.1.rows k hk)
   have xr : wr.cell? ⟨pg, k, none⟩ = some (.slice pv (q.past k).length pcap) := by
    rw [<- hP];exact Hm.out.2.1.cell (HL.out.1.1.cell (HM.out.1.cell (H.out.1.past k hk).1) (by simp; omega)) (by simp; omega)
   have xv : wr.cell? ⟨w.heap.size + 2, 2, none⟩ = some (.slice xa k xc) := Hm.out.2.2.2.2.1.1;obtain ⟨S, HS⟩ : ∃ S : World -> Prop, Hid (∀ w', S w' ↔ (w'.cell? ⟨w.heap.size, 2, none⟩ = some (.slice (some ⟨pg, 0, none⟩) N pc) /\ w'.cell? ⟨pg, k, none⟩ = some (.slice pv (q.past k).length pcap) /\ w'.cell? ⟨w.heap.size + 2, 2, none⟩ = some (.slice xa k xc))) := ⟨_, fun _ => Iff.rfl⟩;have j1 : ∀ i : { w' // S w' }, i.val.cell? ⟨w.heap.size, 2, none⟩ = some (.slice (some ⟨pg, 0, none⟩) N pc) := fun i => ((HS.out _).1 i.property).1
   have j2 : ∀ i : { w' // S w' }, i.val.cell? ⟨pg, k, none⟩ = some (.slice pv (q.past k).length pcap) := fun i => ((HS.out _).1 i.property).2.1
   have j3 : ∀ i : { w' // S w' }, i.val.cell? ⟨w.heap.size + 2, 2, none⟩ = some (.slice xa k xc) := fun i => ((HS.out _).1 i.property).2.2
   have hS : S wr.drew := (HS.out _).2 ⟨xp, xr, xv⟩;have hne : Nonempty { w' // S w' } := ⟨⟨_, hS⟩⟩;go_wp2_with (fail)
   refine J0i (S := S) [(0, true), (1, true), (3, true), (4, true), (5, true), (6, true), (7, true), (2, false), (8, false), (9, false), (10, false), (11, true), (12, false)] (by kernel_rfl) (by kernel_rfl) (by kernel_rfl) hS ?_
   iterate 7 (refine J0d rfl (by kernel_rfl) (fun K hK => ?_); go_simp; refine hK _ _ ?_; clear hK K)
   clear j1 j2 j3;have HX := J03 (And.intro hS (And.intro xp (And.intro xr xv)));have Hk := J03 hk;have Hpg := J03 (And.intro hpg hP);obtain ⟨ln, hln⟩ : ∃ n, (q.past k).length = n := ⟨_, rfl⟩;have Hln : Hid ((q.past k).length = ln /\ ln <= 100000) := ⟨hln, by rw [<- hln]; exact H.out.2.2 k hk⟩;rw [hln];rw [hln] at xr;have hwsz : WL.heap.size <= wr.heap.size := Hm.out.2.1.size;have hsz := HL.out.1.2;have Hown1 : Hid ((wr.alloc (.cells #[] 2)).drew.ownsRow WL.heap.size 2 1 (.slice (some ⟨wr.heap.size, 0, none⟩) 0 0) 0 []) := World.ownsRow_made wr #[] 0 hwsz (by unfold maxLen; omega) rfl
   have Hnews : Hid (0 < ln -> ∃ ad', pv = some ad' /\ ∀ j u, (ints (q.past k))[j]? = some u -> (wr.alloc (.cells #[] 2)).drew.cell? (ad'.add j) = some u) := by
    intro h0;have hrow := H.out.1.rows k hk;rw [show (PV.P _ k) = _ from hP] at hrow;obtain ⟨g', hpv, hgl, hcs⟩ := Jbv hrow (by rw [hln]; exact h0);refine ⟨_, hpv, fun j u hu => ?_⟩;rw [Go.WideShapes.add_plain, Nat.zero_add];exact ((More.refl wr).alloc _ _).drew.cell (Hm.out.2.1.cell (HL.out.1.1.cell (HM.out.1.cell (hcs j u hu)) (by simp; omega)) (by simp; omega))
   clear hS xp xr xv hP hln;refine J0y rfl (by kernel_rfl) (fun K hK => ?_)
   go_simp
   refine hK _ _ ((HS.out _).2 ?_) ?_
   ·obtain ⟨_, x1, x2, x3⟩ := HX.out
    exact ⟨((More.refl wr).alloc _ _).drew.cell x1, ((More.refl wr).alloc _ _).drew.cell x2, ((More.refl wr).alloc _ _).drew.cell x3⟩
   clear hK K;refine J0y rfl (by kernel_rfl) (fun K hK => ?_);refine J5c _ (.tmp 29) (.tmp 34) 65 rfl WL.heap.size 2 i0 (.int .i64 0) 1 8 Tryz.underlying65 Hi.out.1 Hi.out.2.1 Hi.out.2.2.1 Hi.out.2.2.2 rfl (by decide) (.slice (some ⟨wr.heap.size, 0, none⟩) 0 0) 0 [] rfl Hown1.out pv ln pcap (ints (q.past k)) rfl (by rw [J6h, Hln.out.1, Nat.mul_one]) Hnews.out (Jgm _) (by have := Hln.out.2; unfold maxLen; omega) (by have := Hln.out.2; omega) (by simp; omega) ?_;intro vb cb w4 own4 gr4 at4 nn4;obtain ⟨ga, rfl⟩ : ∃ ga, vb = some ga := Option.ne_none_iff_exists'.1 (nn4 (by simp [Value.ownBlock]))
   have gad : ga = ⟨ga.block, 0, none⟩ := by
    rcases own4.2 with ⟨h, _⟩ | ⟨g', _, _, h, _⟩
    ·cases h
    ·injection h with h1 _ _
     rw [Option.some.inj h1]
   obtain ⟨gb, hgb⟩ : ∃ b, ga.block = b := ⟨_, rfl⟩;rw [hgb] at gad;subst gad;clear hgb;simp only [Nat.zero_add, List.nil_append] at own4 at4 |-
   have hgl : wr.heap.size <= gb := by
    rcases at4 gb rfl with h | h
    ·have := Option.some.inj h; dsimp only at this; omega
    ·rw [h]; simp
   have gr4' : (wr.alloc (.cells #[] 2)).grownBy w4 (some wr.heap.size) := ⟨gr4.os, gr4.tape, gr4.output, gr4.size, gr4.block⟩;have hs4 : wr.heap.size + 1 <= w4.heap.size := by have := gr4'.size; simpa using this
   have H4 := J03 (And.intro own4 (And.intro gr4' (And.intro hgl hs4)));refine hK _ _ ((HS.out _).2 ?_) ?_
   ·obtain ⟨_, x1, x2, x3⟩ := HX.out
    have lx1 := J05 x1;have lx2 := J05 x2;have lx3 := J05 x3;dsimp only at lx1 lx2 lx3;exact ⟨gr4'.cell (((More.refl wr).alloc _ _).cell x1) (by simp; omega), gr4'.cell (((More.refl wr).alloc _ _).cell x2) (by simp; omega), gr4'.cell (((More.refl wr).alloc _ _).cell x3) (by simp; omega)⟩
   clear hK K own4 at4 gr4 gr4' nn4 hgl hs4;refine J0y rfl (by kernel_rfl) (fun K hK => ?_)
   go_simp
   refine hK _ _ ((HS.out _).2 ?_) ?_
   ·obtain ⟨_, x1, x2, x3⟩ := HX.out
    have lx1 := J05 x1;have lx2 := J05 x2;have lx3 := J05 x3;dsimp only at lx1 lx2 lx3;have gr4' := H4.out.2.1;exact ⟨((More.refl w4).alloc _ _).cell (gr4'.cell (((More.refl wr).alloc _ _).cell x1) (by simp; omega)), ((More.refl w4).alloc _ _).cell (gr4'.cell (((More.refl wr).alloc _ _).cell x2) (by simp; omega)), ((More.refl w4).alloc _ _).cell (gr4'.cell (((More.refl wr).alloc _ _).cell x3) (by simp; omega))⟩
   clear hK K;have Hlen : Hid ((pastM q N).len k = ln) := Hln.out.1;have Hs4 := J03 H4.out.2.2.2;refine J0y rfl (by kernel_rfl) (fun K hK => ?_);refine wp_append_lies _ (.tmp 28) (.tmp 36) 26 rfl WL.heap.size 65 i1 (.slice none 0 0) 1 24 Tryz.underlying26 Hi'.out.1 Hi'.out.2.1 Hi'.out.2.2.1 Hi'.out.2.2.2 rfl (by decide) (.slice xa k xc) k ((List.range k).map fun j => .slice (some ⟨G j, 0, none⟩) ((pastM q N).len j) (C j)) rfl (Hm.out.1.own3 _ _ H4.out.2.1) ⟨w4.heap.size, 0, none⟩ 1 1 [.slice (some ⟨gb, 0, none⟩) ln cb] rfl rfl (cell_one_new _ _ _) (fun x hx => by simp at hx; subst hx; rfl) (by decide) (by have := H.out.2.1; have := Hk.out; unfold maxLen; omega) (by have := H.out.2.1; have := Hk.out; omega) (by have := Hs4.out; simp; omega) (w4.heap.size + 1) (by simp) ?_;intro g2 cap2 w5 own5 gr5 at5 lt5;have hc5 := Hm.out.1.step (.cells #[] 2) (.cells #[.slice (some ⟨gb, 0, none⟩) ln cb] 65) gb cb g2 cap2 (by rw [Hlen.out, J6v]; exact H4.out.1) H4.out.2.1 H4.out.2.2.1 (by rw [Hlen.out]; exact own5) gr5 at5;have hvb : ∀ b, (Value.slice xa k xc).ownBlock = some b -> WL.heap.size <= b := fun b hb => (Hm.out.1.own.lt b hb).1
   have kp5 : ∀ b, b < WL.heap.size -> some b ≠ (Value.slice xa k xc).ownBlock := fun b hb e => by have := hvb b e.symm; omega
   have kw : ∀ o u, Wr wr (w.heap.size + 2) o u -> Wr w5 (w.heap.size + 2) o u := fun o u h => ((h.kept (World.grownBy_alloc wr _ none) (by simp)).kept H4.out.2.1 (by simp; omega)).kept (World.grownBy_alloc w4 _ none) (by simp) |>.kept gr5 (kp5 _ (by omega))
   have g05 : WL.grownBy w5 (some (w.heap.size + 2)) := J1g (J1g (J1g (J1g Hm.out.2.1 (World.grownBy_alloc wr _ none) (fun j h => by cases h)) H4.out.2.1 (fun j h => by have := Option.some.inj h; omega)) (World.grownBy_alloc w4 _ none) (fun j h => by cases h)) gr5 hvb;obtain ⟨_, _, m0, m1, m2, m3⟩ := Hm.out;have H5 := J03 (And.intro hc5 (And.intro g05 (And.intro (kw _ _ m0) (And.intro (kw _ _ m1) (And.intro (kw _ _ m2) (kw _ _ m3))))));have c2' := (kw _ _ m2).1;have f2' := (kw _ _ m2).2;refine hK _ _ ((HS.out _).2 ?_) ?_
   ·obtain ⟨_, x1, x2, x3⟩ := HX.out
    have lx1 := J05 x1;have lx2 := J05 x2;have lx3 := J05 x3;dsimp only at lx1 lx2 lx3;have gr4' := H4.out.2.1;exact ⟨gr5.cell (((More.refl w4).alloc _ _).cell (gr4'.cell (((More.refl wr).alloc _ _).cell x1) (by simp; omega))) (kp5 _ (by dsimp only; omega)), gr5.cell (((More.refl w4).alloc _ _).cell (gr4'.cell (((More.refl wr).alloc _ _).cell x2) (by simp; omega))) (kp5 _ (by have := Hpg.out.1; dsimp only; omega)), c2'⟩
   clear hK K own5 gr5 at5 lt5 hc5 hvb kp5 kw g05 m0 m1 m2 m3;refine J0d rfl (by kernel_rfl) (fun K hK => ?_); go_simp; refine hK _ _ ?_; clear hK K;refine J0v rfl (by kernel_rfl) (by kernel_rfl) (fun K hK => ?_)
   go_simp
   refine hK _ _ ?_;clear hK K hne;refine NoPanic.normal ?_;have hk63 : wrap64 ((k : Int) + 1) = (k : Int) + 1 := by have := H.out.2.1; unfold wrap64; omega
   have hwr := J2b;go_wp2;go_roundg g
   case measure => omega
   case rel =>
    obtain ⟨hc5, g05, m0, m1, m2, m3⟩ := H5.out;have hgs := J0q w5 (w.heap.size + 2) 2 (.slice (some ⟨g2, 0, none⟩) (k + 1) cap2);exact ⟨k + 1, _, _, _, by omega, by first | rfl | (push_cast; rfl), hc5.kept hgs (by omega), J0z g05 hgs, m0.other _ _ _ (by omega), m1.other _ _ _ (by omega), m2.same _, m3.other _ _ _ (by omega)⟩
end
section
open Go.RowKit
set_option linter.unusedSimpArgs false
set_option linter.unusedVariables false
structure Ys where
 rv : Value
 cv : Value
 mv : Value
 e : Int
 v : Int
 k : Int
structure Zs where
 sv : Value
 sc : Value
 b0 : Value
 b1 : Value
 b2 : Value
 b3 : Value
 a : PV
 b : PV
 lab : Nat -> Nat

def gV (N : Nat) (y : Ys) (s : Sp) (z : Zs) : Nat -> Value
 | 0 => z.a.regs
 | 1 => z.a.words N
 | 2 => z.a.past N
 | 3 => .int .i64 s.pl.at_
 | 4 => y.rv
 | 5 => y.cv
 | 6 => .int .i64 y.e
 | 7 => .int .i64 y.v
 | 8 => .int .i64 y.k
 | 9 => z.sv
 | 10 => y.mv
 | 11 => z.sc
 | 12 => .bool s.ahead
 | 13 => .int .i64 s.since
 | 14 => z.b0
 | 15 => z.b1
 | 16 => z.b2
 | _ => z.b3

structure Rest (w : World) (G N : Nat) (s : Sp) (mo : List (Nat × Obj)) (z : Zs) : Prop where
 lt : G < w.heap.size
 lab : ∀ c, z.lab c ≠ 0 -> G < c /\ c < w.heap.size
 cur : PlL w (G + 1) N 0 z.lab s.pl z.a
 back : s.ahead = true -> PlL w (G + 1) N 1000 z.lab s.back z.b /\ z.b0 = z.b.regs /\ z.b1 = z.b.words N /\ z.b2 = z.b.past N /\ z.b3 = .int .i64 s.back.at_
 seen : SeenOwn w (G + 1) z.sv s.seen
 lseen : ∀ b, z.sv.ownBlock = some b -> z.lab b = 5000
 sc : ScAt w G z.sc s.script
 box : ∀ p ∈ mo, G < p.1 /\ z.lab p.1 = 0 /\ w.heap[p.1]? = some p.2
structure RS (w : World) (G N : Nat) (y : Ys) (s : Sp) (mo : List (Nat × Obj)) (z : Zs) : Prop where
 cells : ∀ j, j < 18 -> Wr w G j (gV N y s z j)
 rest : Rest w G N s mo z
structure R4 (w : World) (G N : Nat) (y : Ys) (s : Sp) (mo : List (Nat × Obj)) : Prop where
 out : N <= 384 /\ ∃ z, RS w G N y s mo z

section
variable {w w' : World} {G N : Nat} {y : Ys} {s : Sp} {mo : List (Nat × Obj)} {z : Zs}

theorem Rest.kept (h : Rest w G N s mo z) (hN : N <= 384) {row : Option Nat} (hg : w.grownBy w' row) (hr : ∀ b, row = some b -> z.lab b = 0 /\ G <= b /\ ∀ p ∈ mo, p.1 ≠ b) : Rest w' G N s mo z := by
 have hz : ∀ K b, row = some b -> ¬ InR K (z.lab b) := fun K b hb => by rw [(hr b hb).1]; unfold InR; omega
 refine ⟨Nat.lt_of_lt_of_le h.lt hg.size, fun c hc => ⟨(h.lab c hc).1, Nat.lt_of_lt_of_le (h.lab c hc).2 hg.size⟩, h.cur.kept hN hg (hz 0), fun ha => ⟨(h.back ha).1.kept hN hg (hz 1000), (h.back ha).2⟩, ?_, h.lseen, ?_, fun p hp => ?_⟩
 ·refine World.ownsRow.kept h.seen hg ?_
  cases hv : z.sv.ownBlock with
  | none => left; rfl
  | some b => right; intro e; have := (hr b e.symm).1; have := h.lseen b hv; omega
 ·refine h.sc.below (Below.grown (Below.refl _ _) hg (Nat.le_of_lt h.lt) (fun b hb => (hr b hb).2.1))
 ·obtain ⟨h1, h2, h3⟩ := h.box p hp
  exact ⟨h1, h2, by rw [hg.block p.1 (J14 h3) (fun e => (hr p.1 e.symm).2.2 p hp rfl)]; exact h3⟩
theorem Rest.own (h : Rest w G N s mo z) (b : Nat) (hb : some G = some b) : z.lab b = 0 /\ G <= b /\ ∀ p ∈ mo, p.1 ≠ b := by
 obtain rfl := Option.some.inj hb;refine ⟨?_, Nat.le_refl _, fun p hp e => ?_⟩
 ·cases hc : z.lab G with
  | zero => rfl
  | succ n => have := (h.lab G (by rw [hc]; omega)).1; omega
 ·have := (h.box p hp).1; omega
theorem RS.kept (h : RS w G N y s mo z) (hN : N <= 384) {row : Option Nat} (hg : w.grownBy w' row) (hr : ∀ b, row = some b -> z.lab b = 0 /\ G < b /\ ∀ p ∈ mo, p.1 ≠ b) : RS w' G N y s mo z :=
 ⟨fun j hj => (h.cells j hj).kept hg (fun e => by have := (hr G e.symm).2.1; omega), h.rest.kept hN hg (fun b hb => ⟨(hr b hb).1, Nat.le_of_lt (hr b hb).2.1, (hr b hb).2.2⟩)⟩
theorem RS.put (h : RS w G N y s mo z) (hN : N <= 384) (j : Nat) (v : Value) {y' : Ys} {s' : Sp} {z' : Zs} (hj : j < 18) (hc : ∀ i, i < 18 -> gV N y' s' z' i = if i = j then v else gV N y s z i) (hr : ∀ w', Rest w' G N s mo z -> Rest w' G N s' mo z') :
  RS (w.setCell ⟨G, j, none⟩ v) G N y' s' mo z' := by
 refine ⟨fun i hi => ?_, hr _ (h.rest.kept hN (J0q w G j v) h.rest.own)⟩;rw [hc i hi];by_cases e : i = j
 ·subst e; rw [if_pos rfl]; exact (h.cells i hi).same _
 ·rw [if_neg e]; exact (h.cells i hi).other _ _ _ (by omega)

theorem R4.lt (h : R4 w G N y s mo) : G < w.heap.size := by obtain ⟨_, z, hz⟩ := h.out; exact hz.rest.lt
theorem R4.more (h : R4 w G N y s mo) (m : More w w') : R4 w' G N y s mo := by
 obtain ⟨hN, z, hz⟩ := h.out;exact ⟨hN, z, hz.kept hN (m.grow none) (fun b hb => by cases hb)⟩
theorem R4.drew (h : R4 w G N y s mo) : R4 w.drew G N y s mo := h.more (More.refl _).drew
theorem R4.fewer (h : R4 w G N y s mo) (l : List (Nat × Obj)) (hl : ∀ p ∈ l, p ∈ mo) : R4 w G N y s l := by
 obtain ⟨hN, z, hz⟩ := h.out;exact ⟨hN, z, hz.cells, hz.rest.lt, hz.rest.lab, hz.rest.cur, hz.rest.back, hz.rest.seen, hz.rest.lseen, hz.rest.sc, fun p hp => hz.rest.box p (hl p hp)⟩
theorem R4.left (h : R4 w G N y s mo) {p : Nat × Obj} (hp : p ∈ mo) : w.heap[p.1]? = some p.2 := by obtain ⟨hN, z, hz⟩ := h.out; exact (hz.rest.box p hp).2.2
theorem R4.beside (h : R4 w G N y s mo) (o : Obj) : R4 (w.alloc o) G N y s ((w.heap.size, o) :: mo) := by
 obtain ⟨hN, z, hz⟩ := h.out;have h1 := hz.kept hN (World.grownBy_alloc w o none) (fun b hb => by cases hb);refine ⟨hN, z, h1.cells, h1.rest.lt, h1.rest.lab, h1.rest.cur, h1.rest.back, h1.rest.seen, h1.rest.lseen, h1.rest.sc, fun p hp => ?_⟩;rcases List.mem_cons.1 hp with rfl | hp
 ·refine ⟨hz.rest.lt, ?_, heap_alloc_last w o⟩
  cases hc : z.lab w.heap.size with
  | zero => rfl
  | succ n => have := (hz.rest.lab w.heap.size (by rw [hc]; omega)).2; omega
 ·exact h1.rest.box p hp

theorem lt18 {P : Nat -> Prop} (h0 : P 0) (h1 : P 1) (h2 : P 2) (h3 : P 3) (h4 : P 4) (h5 : P 5) (h6 : P 6) (h7 : P 7) (h8 : P 8) (h9 : P 9) (h10 : P 10) (h11 : P 11) (h12 : P 12) (h13 : P 13) (h14 : P 14) (h15 : P 15) (h16 : P 16) (h17 : P 17) : ∀ i, i < 18 -> P i := by
 intro i hi;have hi' : i = 0 \/ i = 1 \/ i = 2 \/ i = 3 \/ i = 4 \/ i = 5 \/ i = 6 \/ i = 7 \/ i = 8 \/ i = 9 \/ i = 10 \/ i = 11 \/ i = 12 \/ i = 13 \/ i = 14 \/ i = 15 \/ i = 16 \/ i = 17 := by omega
 rcases hi' with rfl | rfl | rfl | rfl | rfl | rfl | rfl | rfl | rfl | rfl | rfl | rfl | rfl | rfl | rfl | rfl | rfl | rfl
 ·exact h0
 ·exact h1
 ·exact h2
 ·exact h3
 ·exact h4
 ·exact h5
 ·exact h6
 ·exact h7
 ·exact h8
 ·exact h9
 ·exact h10
 ·exact h11
 ·exact h12
 ·exact h13
 ·exact h14
 ·exact h15
 ·exact h16
 ·exact h17

theorem RS.setAt (h : RS w G N y s mo z) (hN : N <= 384) (n : Nat) (m : Int) (hm : m = n) : RS (w.setCell ⟨G, 3, none⟩ (.int .i64 m)) G N y (s.go n) mo z := by
 subst hm;exact h.put hN 3 _ (by omega) (by exact lt18 rfl rfl rfl rfl rfl rfl rfl rfl rfl rfl rfl rfl rfl rfl rfl rfl rfl rfl) (fun w' r => ⟨r.lt, r.lab, r.cur.go n, r.back, r.seen, r.lseen, r.sc, r.box⟩)
theorem RS.setE (h : RS w G N y s mo z) (hN : N <= 384) (n : Int) : RS (w.setCell ⟨G, 6, none⟩ (.int .i64 n)) G N { y with e := n } s mo z := h.put hN 6 _ (by omega) (by exact lt18 rfl rfl rfl rfl rfl rfl rfl rfl rfl rfl rfl rfl rfl rfl rfl rfl rfl rfl) (fun w' r => r)
theorem RS.setV (h : RS w G N y s mo z) (hN : N <= 384) (n : Int) : RS (w.setCell ⟨G, 7, none⟩ (.int .i64 n)) G N { y with v := n } s mo z := h.put hN 7 _ (by omega) (by exact lt18 rfl rfl rfl rfl rfl rfl rfl rfl rfl rfl rfl rfl rfl rfl rfl rfl rfl rfl) (fun w' r => r)
theorem RS.setK (h : RS w G N y s mo z) (hN : N <= 384) (n : Int) : RS (w.setCell ⟨G, 8, none⟩ (.int .i64 n)) G N { y with k := n } s mo z := h.put hN 8 _ (by omega) (by exact lt18 rfl rfl rfl rfl rfl rfl rfl rfl rfl rfl rfl rfl rfl rfl rfl rfl rfl rfl) (fun w' r => r)
theorem RS.setSc (h : RS w G N y s mo z) (hN : N <= 384) (v : Value) (l : List Int) (hl : ScAt w G v l) : RS (w.setCell ⟨G, 11, none⟩ v) G N y { s with script := l } mo { z with sc := v } := by
 have hl' : ScAt (w.setCell ⟨G, 11, none⟩ v) G v l := hl.below (J0a (Below.refl _ _) _ _);have h1 := h.rest.kept hN (J0q w G 11 v) h.rest.own;refine ⟨fun i hi => ?_, h1.lt, h1.lab, h1.cur, h1.back, h1.seen, h1.lseen, hl', h1.box⟩;rw [show gV N y { s with script := l } { z with sc := v } i = if i = 11 then v else gV N y s z i from by revert i; exact lt18 rfl rfl rfl rfl rfl rfl rfl rfl rfl rfl rfl rfl rfl rfl rfl rfl rfl rfl];by_cases e : i = 11
 ·subst e; rw [if_pos rfl]; exact (h.cells 11 hi).same _
 ·rw [if_neg e]; exact (h.cells i hi).other _ _ _ (by omega)
theorem RS.setSince (h : RS w G N y s mo z) (hN : N <= 384) (n : Int) : RS (w.setCell ⟨G, 13, none⟩ (.int .i64 n)) G N y { s with since := n } mo z := h.put hN 13 _ (by omega) (by exact lt18 rfl rfl rfl rfl rfl rfl rfl rfl rfl rfl rfl rfl rfl rfl rfl rfl rfl rfl) (fun w' r => ⟨r.lt, r.lab, r.cur, r.back, r.seen, r.lseen, r.sc, r.box⟩)
theorem RS.setHere (h : RS w G N y s mo z) (hN : N <= 384) : RS (w.setCell ⟨G, 12, none⟩ (.bool false)) G N y { s with ahead := false } mo z := h.put hN 12 _ (by omega) (by exact lt18 rfl rfl rfl rfl rfl rfl rfl rfl rfl rfl rfl rfl rfl rfl rfl rfl rfl rfl) (fun w' r => ⟨r.lt, r.lab, r.cur, fun h => absurd h (by simp), r.seen, r.lseen, r.sc, r.box⟩)

theorem R4.setAt (h : R4 w G N y s mo) (n : Nat) (m : Int) (hm : m = n) : R4 (w.setCell ⟨G, 3, none⟩ (.int .i64 m)) G N y (s.go n) mo := by obtain ⟨hN, z, hz⟩ := h.out; exact ⟨hN, z, hz.setAt hN n m hm⟩
theorem R4.setE (h : R4 w G N y s mo) (n : Int) : R4 (w.setCell ⟨G, 6, none⟩ (.int .i64 n)) G N { y with e := n } s mo := by obtain ⟨hN, z, hz⟩ := h.out; exact ⟨hN, z, hz.setE hN n⟩
theorem R4.setV (h : R4 w G N y s mo) (n : Int) : R4 (w.setCell ⟨G, 7, none⟩ (.int .i64 n)) G N { y with v := n } s mo := by obtain ⟨hN, z, hz⟩ := h.out; exact ⟨hN, z, hz.setV hN n⟩
theorem R4.setK (h : R4 w G N y s mo) (n : Int) : R4 (w.setCell ⟨G, 8, none⟩ (.int .i64 n)) G N { y with k := n } s mo := by obtain ⟨hN, z, hz⟩ := h.out; exact ⟨hN, z, hz.setK hN n⟩
theorem R4.setSince (h : R4 w G N y s mo) (n : Int) : R4 (w.setCell ⟨G, 13, none⟩ (.int .i64 n)) G N y { s with since := n } mo := by obtain ⟨hN, z, hz⟩ := h.out; exact ⟨hN, z, hz.setSince hN n⟩

theorem R4.at_ (h : R4 w G N y s mo) : Wr w G 3 (.int .i64 s.pl.at_) := by obtain ⟨hN, z, hz⟩ := h.out; exact hz.cells 3 (by omega)
theorem R4.rv (h : R4 w G N y s mo) : Wr w G 4 y.rv := by obtain ⟨hN, z, hz⟩ := h.out; exact hz.cells 4 (by omega)
theorem R4.cv (h : R4 w G N y s mo) : Wr w G 5 y.cv := by obtain ⟨hN, z, hz⟩ := h.out; exact hz.cells 5 (by omega)
theorem R4.e (h : R4 w G N y s mo) : Wr w G 6 (.int .i64 y.e) := by obtain ⟨hN, z, hz⟩ := h.out; exact hz.cells 6 (by omega)
theorem R4.v (h : R4 w G N y s mo) : Wr w G 7 (.int .i64 y.v) := by obtain ⟨hN, z, hz⟩ := h.out; exact hz.cells 7 (by omega)
theorem R4.k (h : R4 w G N y s mo) : Wr w G 8 (.int .i64 y.k) := by obtain ⟨hN, z, hz⟩ := h.out; exact hz.cells 8 (by omega)
theorem R4.ahead (h : R4 w G N y s mo) : Wr w G 12 (.bool s.ahead) := by obtain ⟨hN, z, hz⟩ := h.out; exact hz.cells 12 (by omega)
theorem R4.since (h : R4 w G N y s mo) : Wr w G 13 (.int .i64 s.since) := by obtain ⟨hN, z, hz⟩ := h.out; exact hz.cells 13 (by omega)
theorem R4.regs (h : R4 w G N y s mo) : ∃ g c, Wr w G 0 (.slice (some ⟨g, 0, none⟩) 10 c) /\ RegsR w g s.pl.r /\ G < g := by
 obtain ⟨hN, z, hz⟩ := h.out;exact ⟨z.a.rg, z.a.rc, hz.cells 0 (by omega), hz.rest.cur.regs, (hz.rest.lab _ (by rw [hz.rest.cur.lr]; omega)).1⟩

theorem RS.regd (h : RS w G N y s mo z) (hN : N <= 384) (r : Nat -> Int) (hg : w.grownBy w' (some z.a.rg)) (hr : RegsR w' z.a.rg r) : RS w' G N y { s with pl := { s.pl with r := r } } mo z := by
 have hl := h.rest.cur.lr;have hG := (h.rest.lab _ (by rw [hl]; omega)).1;have hb : ∀ K b, some z.a.rg = some b -> K = 1000 -> ¬ InR K (z.lab b) := fun K b hb hK => by rw [<- Option.some.inj hb, hl]; unfold InR; omega
 refine ⟨fun j hj => ?_, Nat.lt_of_lt_of_le h.rest.lt hg.size, fun c hc => ⟨(h.rest.lab c hc).1, Nat.lt_of_lt_of_le (h.rest.lab c hc).2 hg.size⟩, h.rest.cur.regd hN r hg hr, fun ha => ⟨(h.rest.back ha).1.kept hN hg (fun b e => hb 1000 b e rfl), (h.rest.back ha).2⟩, ?_, h.rest.lseen, ?_, fun p hp => ?_⟩
 ·have := (h.cells j hj).kept hg (by simp; omega)
  exact this
 ·refine World.ownsRow.kept h.rest.seen hg ?_
  cases hv : z.sv.ownBlock with
  | none => left; rfl
  | some b => right; intro e; have := h.rest.lseen b hv; rw [Option.some.inj e] at this; omega
 ·exact h.rest.sc.below (Below.grown (Below.refl _ _) hg (Nat.le_of_lt h.rest.lt) (fun b hb => by rw [<- Option.some.inj hb]; omega))
 ·obtain ⟨h1, h2, h3⟩ := h.rest.box p hp
  exact ⟨h1, h2, by rw [hg.block p.1 (J14 h3) (fun e => by rw [Option.some.inj e] at h2; omega)]; exact h3⟩
end
theorem PlL.anew {w : World} {lo N K K' : Nat} {lab lab' : Nat -> Nat} {q : Pl} {a : PV} (h : PlL w lo N K lab q a) (hN : N <= 384) (hl : ∀ b, InR K (lab b) -> lab' b + K = lab b + K') : PlL w lo N K' lab' q a :=
 ⟨by have := hl a.rg (by rw [h.lr]; unfold InR; omega); rw [h.lr] at this; omega, h.regs, fun h0 => by have := hl a.wg (by rw [h.lw h0]; unfold InR; omega); rw [h.lw h0] at this; omega, h.wa, h.words, fun h0 => by have := hl a.pg (by rw [h.lp h0]; unfold InR; omega); rw [h.lp h0] at this; omega, h.pa, h.past, h.rows,
  fun j hj b hb => by have := hl b (by rw [h.lrow j hj b hb]; unfold InR; omega); rw [h.lrow j hj b hb] at this; omega, h.cap⟩
theorem PlL.labs2 {w : World} {lo N K : Nat} {lab lab' : Nat -> Nat} {q : Pl} {a : PV} (h : PlL w lo N K lab q a) (hN : N <= 384) (hl : ∀ b, InR K (lab b) -> lab' b = lab b) : PlL w lo N K lab' q a := h.anew hN (fun b hb => by rw [hl b hb])

section
variable {w w' : World} {G N : Nat} {y : Ys} {s : Sp} {mo : List (Nat × Obj)} {z : Zs}

theorem RS.shown (h : RS w G N y s mo z) (hN : N <= 384) (l : List Se) (sv' : Value) (own : SeenOwn w' (G + 1) sv' l) (gr : w.grownBy w' z.sv.ownBlock) (hat : ∀ b, sv'.ownBlock = some b -> z.sv.ownBlock = some b \/ w.heap.size <= b) :
  RS (w'.setCell ⟨G, 9, none⟩ sv') G N y { s with seen := l } mo { z with sv := sv', lab := fun c => if sv'.ownBlock = some c then 5000 else z.lab c } := by
 have hG := h.rest.lt
 have hl : ∀ c, z.lab c ≠ 0 -> z.lab c ≠ 5000 -> sv'.ownBlock ≠ some c := fun c h0 h5 e => by
  rcases hat c e with h1 | h1
  ·exact h5 (h.rest.lseen c h1)
  ·have := (h.rest.lab c h0).2; omega
 have hsb : ∀ b, z.sv.ownBlock = some b -> G < b := fun b hb => (World.ownsRow.lt h.rest.seen b hb).1
 have hg2 := J0q w' G 9 sv'
 have kp : ∀ K lo q a, K + 1000 <= 5000 -> PlL w lo N K z.lab q a -> PlL (w'.setCell ⟨G, 9, none⟩ sv') lo N K (fun c => if sv'.ownBlock = some c then 5000 else z.lab c) q a := fun K lo q a hK hp => by
  refine PlL.labs2 ((hp.kept hN gr (fun b hb => by rw [h.rest.lseen b hb]; unfold InR; omega)).kept hN hg2 (fun b hb => by rw [(h.rest.own b hb).1]; unfold InR; omega)) hN (fun b hb => ?_);rw [if_neg (hl b (by unfold InR at hb; omega) (by unfold InR at hb; omega))]
 have own2 : SeenOwn (w'.setCell ⟨G, 9, none⟩ sv') (G + 1) sv' l := own.kept hg2 (fun b hb => by have := Option.some.inj hb; omega);refine ⟨fun j hj => ?_, Nat.lt_of_lt_of_le hG (Nat.le_trans gr.size hg2.size), fun c hc => ?_, kp 0 _ _ _ (by omega) h.rest.cur, fun ha => ⟨kp 1000 _ _ _ (by omega) (h.rest.back ha).1, (h.rest.back ha).2⟩, own2, fun b hb => by dsimp only at hb |-; rw [if_pos hb], ?_, fun p hp => ?_⟩
 ·have hc : gV N y { s with seen := l } { z with sv := sv', lab := fun c => if sv'.ownBlock = some c then 5000 else z.lab c } j = if j = 9 then sv' else gV N y s z j := by revert j; exact lt18 rfl rfl rfl rfl rfl rfl rfl rfl rfl rfl rfl rfl rfl rfl rfl rfl rfl rfl
  rw [hc];have h1 := (h.cells j hj).kept gr (fun e => by have := hsb G e.symm; omega);by_cases e : j = 9
  ·subst e; rw [if_pos rfl]; exact h1.same _
  ·rw [if_neg e]; exact h1.other _ _ _ (by omega)
 ·dsimp only at hc
  split at hc
  ·rename_i e
   have := World.ownsRow.lt own2 c e;omega
  ·have := h.rest.lab c hc
   exact ⟨this.1, Nat.lt_of_lt_of_le this.2 (Nat.le_trans gr.size hg2.size)⟩
 ·exact (h.rest.sc.below (Below.grown (Below.refl _ _) gr (Nat.le_of_lt hG) (fun b hb => Nat.le_of_lt (hsb b hb)))).below (J0a (Below.refl _ _) _ _)
 ·obtain ⟨h1, h2, h3⟩ := h.rest.box p hp
  have hne : sv'.ownBlock ≠ some p.1 := fun e => by
   rcases hat _ e with h4 | h4
   ·have := h.rest.lseen _ h4; omega
   ·have := J14 h3; omega
  refine ⟨h1, by dsimp only; rw [if_neg hne]; exact h2, ?_⟩;rw [hg2.block p.1 (Nat.lt_of_lt_of_le (J14 h3) gr.size) (fun e => by have := Option.some.inj e; omega), gr.block p.1 (J14 h3) (fun e => by have := h.rest.lseen _ e.symm; omega)];exact h3

theorem RS.part (h : RS w G N y s mo z) (hN : N <= 384) {row : Option Nat} (hg : w.grownBy w' row) (hr : ∀ b, row = some b -> InR 0 (z.lab b)) (pl' : Pl) (a' : PV) (lab' : Nat -> Nat) (hl : ∀ c, z.lab c ≠ 0 -> lab' c = z.lab c) (hn : ∀ c, lab' c ≠ 0 -> z.lab c ≠ 0 \/ (w.heap.size <= c /\ c < w'.heap.size))
  (hp : PlL w' (G + 1) N 0 lab' pl' a') (e1 : a'.regs = z.a.regs) (e2 : a'.words N = z.a.words N) (e3 : a'.past N = z.a.past N) (e4 : pl'.at_ = s.pl.at_) : RS w' G N y { s with pl := pl' } mo { z with a := a', lab := lab' } := by
 have hG : ∀ b, row = some b -> G < b := fun b hb => (h.rest.lab b (by have := hr b hb; unfold InR at this; omega)).1
 have hlt := h.rest.lt;refine ⟨fun j hj => ?_, Nat.lt_of_lt_of_le h.rest.lt hg.size, fun c hc => ?_, hp, fun ha => ⟨PlL.labs ((h.rest.back ha).1.kept hN hg (fun b hb => by have := hr b hb; unfold InR at *; omega)) hl, (h.rest.back ha).2⟩, ?_, fun b hb => ?_, ?_, fun p hp => ?_⟩
 ·have hc : gV N y { s with pl := pl' } { z with a := a', lab := lab' } j = gV N y s z j := by revert j; exact lt18 e1 e2 e3 (congrArg (fun n : Nat => Value.int .i64 (n : Int)) e4) rfl rfl rfl rfl rfl rfl rfl rfl rfl rfl rfl rfl rfl rfl
  rw [hc];exact (h.cells j hj).kept hg (fun e => by have := hG G e.symm; omega)
 ·rcases hn c hc with h1 | h1
  ·have := h.rest.lab c h1
   exact ⟨this.1, Nat.lt_of_lt_of_le this.2 hg.size⟩
  ·exact ⟨by omega, h1.2⟩
 ·refine World.ownsRow.kept h.rest.seen hg ?_
  cases hv : z.sv.ownBlock with
  | none => left; rfl
  | some b => right; intro e; have := h.rest.lseen b hv; have := hr b e.symm; unfold InR at this; omega
 ·have := h.rest.lseen b hb
  dsimp only;rw [hl b (by omega)]; exact this
 ·exact h.rest.sc.below (Below.grown (Below.refl _ _) hg (Nat.le_of_lt hlt) (fun b hb => Nat.le_of_lt (hG b hb)))
 ·obtain ⟨h1, h2, h3⟩ := h.rest.box p hp
  refine ⟨h1, ?_, by rw [hg.block p.1 (J14 h3) (fun e => by have := hr p.1 e.symm; unfold InR at this; omega)]; exact h3⟩;dsimp only;cases hc : lab' p.1 with
  | zero => rfl
  | succ n =>
   rcases hn p.1 (by rw [hc]; omega) with h4 | h4
   ·exact absurd h2 h4
   ·have := J14 h3; omega

theorem RS.setReg (h : RS w G N y s mo z) (hN : N <= 384) (k v : Int) : RS (w.setCell ⟨z.a.rg, k.toNat, none⟩ (.int .i64 v)) G N y (s.reg k v) mo z :=
 h.part hN (J0q w _ _ _) (fun b hb => by rw [<- Option.some.inj hb, h.rest.cur.lr]; unfold InR; omega) _ z.a z.lab (fun _ _ => rfl) (fun c hc => .inl hc) (h.rest.cur.reg hN k v) rfl rfl rfl rfl
theorem RS.setWord (h : RS w G N y s mo z) (hN : N <= 384) (n : Nat) (hn : n < N) (v : Int) : RS (w.setCell ⟨z.a.wg, n, none⟩ (.int .i64 v)) G N y { s with pl := { s.pl with wd := setF s.pl.wd n v } } mo z :=
 h.part hN (J0q w _ _ _) (fun b hb => by rw [<- Option.some.inj hb, h.rest.cur.lw (by omega)]; unfold InR; omega) _ z.a z.lab (fun _ _ => rfl) (fun c hc => .inl hc) (h.rest.cur.word hN n hn v) rfl rfl rfl rfl
theorem RS.pushed (h : RS w G N y s mo z) (hN : N <= 384) (n : Nat) (hn : n < N) (x : Int) (v : Value) (hg : w.grownBy w' (z.a.P n).ownBlock) (own : w'.ownsRow (G + 1) 2 1 v ((s.pl.past n).length + 1) (ints (s.pl.past n) ++ [.int .i64 x]))
  (hat : ∀ b, v.ownBlock = some b -> (z.a.P n).ownBlock = some b \/ w.heap.size <= b) :
  ∃ z', RS (w'.setCell ⟨z.a.pg, n, none⟩ v) G N y { s with pl := { s.pl with past := setF s.pl.past n (s.pl.past n ++ [x]) } } mo z' /\ z'.a.rg = z.a.rg /\ z'.a.wg = z.a.wg := by
 have lrow := h.rest.cur.lrow n hn;have hg2 := J0q w' z.a.pg n v;have lp := h.rest.cur.lp (by omega);have hpg := h.rest.lab z.a.pg (by rw [lp]; omega)
 have hl : ∀ c, z.lab c ≠ 0 -> (if v.ownBlock = some c then 10 + n else z.lab c) = z.lab c := fun c hc => by
  split
  ·rename_i e
   rcases hat c e with h1 | h1
   ·have := lrow c h1; omega
   ·have := (h.rest.lab c hc).2; omega
  ·rfl
 have hp := h.rest.cur.push hN n hn x v hg own (lab' := fun c => if v.ownBlock = some c then 10 + n else z.lab c) hl (fun b hb => by rw [if_pos hb]; try omega)
 have hn' : ∀ c, (if v.ownBlock = some c then 10 + n else z.lab c) ≠ 0 -> z.lab c ≠ 0 \/ (w.heap.size <= c /\ c < (w'.setCell ⟨z.a.pg, n, none⟩ v).heap.size) := fun c hc => by
  split at hc
  ·rename_i e
   rcases hat c e with h1 | h1
   ·left; have := lrow c h1; omega
   ·right; refine ⟨h1, Nat.lt_of_lt_of_le (World.ownsRow.lt own c e).2 hg2.size⟩
  ·exact .inl hc
 refine ⟨{ z with a := { z.a with P := setF z.a.P n v }, lab := fun c => if v.ownBlock = some c then 10 + n else z.lab c }, ?_, rfl, rfl⟩
 have gg : ∀ b, b < w.heap.size -> some b ≠ (z.a.P n).ownBlock -> b ≠ z.a.pg -> (w'.setCell ⟨z.a.pg, n, none⟩ v).heap[b]? = w.heap[b]? := fun b hb h1 h2 => by
  rw [hg2.block b (Nat.lt_of_lt_of_le hb hg.size) (fun e => h2 (Option.some.inj e)), hg.block b hb h1]
 have hrb : ∀ b, (z.a.P n).ownBlock = some b -> G < b := fun b hb => (h.rest.lab b (by rw [lrow b hb]; omega)).1
 have kp : ∀ lo q a, PlL w lo N 1000 z.lab q a -> PlL (w'.setCell ⟨z.a.pg, n, none⟩ v) lo N 1000 (fun c => if v.ownBlock = some c then 10 + n else z.lab c) q a := fun lo q a hp =>
  PlL.labs ((hp.kept hN hg (fun b hb => by rw [lrow b hb]; unfold InR; omega)).kept hN hg2 (fun b hb => by rw [<- Option.some.inj hb, lp]; unfold InR; omega)) hl
 refine ⟨fun j hj => ?_, Nat.lt_of_lt_of_le h.rest.lt (Nat.le_trans hg.size hg2.size), fun c hc => ?_, hp, fun ha => ⟨kp _ _ _ (h.rest.back ha).1, (h.rest.back ha).2⟩, ?_, fun b hb => ?_, ?_, fun p hp => ?_⟩
 ·have hc : ∀ j, j < 18 -> gV N y { s with pl := { s.pl with past := setF s.pl.past n (s.pl.past n ++ [x]) } } { z with a := { z.a with P := setF z.a.P n v }, lab := fun c => if v.ownBlock = some c then 10 + n else z.lab c } j = gV N y s z j := by exact lt18 rfl rfl rfl rfl rfl rfl rfl rfl rfl rfl rfl rfl rfl rfl rfl rfl rfl rfl
  rw [hc j hj];exact ((h.cells j hj).kept hg (fun e => by have := hrb G e.symm; omega)).kept hg2 (fun e => by have := Option.some.inj e; omega)
 ·rcases hn' c hc with h1 | h1
  ·have := h.rest.lab c h1
   exact ⟨this.1, Nat.lt_of_lt_of_le this.2 (Nat.le_trans hg.size hg2.size)⟩
  ·have := h.rest.lt
   exact ⟨by omega, h1.2⟩
 ·refine World.ownsRow.kept (World.ownsRow.kept h.rest.seen hg ?_) hg2 ?_
  ·cases hv : z.sv.ownBlock with
   | none => left; rfl
   | some b => right; intro e; have := h.rest.lseen b hv; have := lrow b e.symm; omega
  ·cases hv : z.sv.ownBlock with
   | none => left; rfl
   | some b => right; intro e; have := h.rest.lseen b hv; rw [Option.some.inj e] at this; omega
 ·have := h.rest.lseen b hb
  dsimp only;rw [hl b (by omega)]; exact this
 ·exact (h.rest.sc.below (Below.grown (Below.refl _ _) hg (Nat.le_of_lt h.rest.lt) (fun b hb => Nat.le_of_lt (hrb b hb)))).below (Below.grown (Below.refl _ _) hg2 (Nat.le_trans (Nat.le_of_lt h.rest.lt) hg.size) (fun b hb => by have := Option.some.inj hb; omega))
 ·obtain ⟨h1, h2, h3⟩ := h.rest.box p hp
  refine ⟨h1, ?_, ?_⟩
  ·dsimp only
   rw [if_neg (fun e => ?_)]
   ·exact h2
   ·rcases hat _ e with h4 | h4
    ·have := lrow _ h4; omega
    ·have := J14 h3; omega
  ·rw [gg p.1 (J14 h3) (fun e => by have := lrow _ e.symm; omega) (fun e => by rw [e] at h2; omega)]
   exact h3

theorem RS.left {w1 w2 : World} (h : RS w G N y s mo z) (hN : N <= 384) (ha : s.ahead = false) (h1 : w1 = (w.setCell ⟨G, 12, none⟩ (.bool true)).setCell ⟨G, 13, none⟩ (.int .i64 (-1))) (m : More w1 w2) (lab' : Nat -> Nat) (a' : PV) (hl : ∀ c, lab' c ≠ 0 -> w1.heap.size <= c /\ c < w2.heap.size) (hp : PlL w2 w1.heap.size N 1000 lab' s.pl a') :
  ∃ z', RS ((((w2.setCell ⟨G, 14, none⟩ a'.regs).setCell ⟨G, 15, none⟩ (a'.words N)).setCell ⟨G, 16, none⟩ (a'.past N)).setCell ⟨G, 17, none⟩ (.int .i64 s.pl.at_)) G N y s.leave mo z' := by
 subst h1;have e : s.leave = { s with ahead := true, since := -1, back := s.pl } := by unfold Sp.leave; rw [if_neg (by rw [ha]; decide)]
 rw [e];have hs0 : ((w.setCell ⟨G, 12, none⟩ (.bool true)).setCell ⟨G, 13, none⟩ (.int .i64 (-1))).heap.size = w.heap.size := by simp
 rw [hs0] at hl hp;have hG := h.rest.lt;have own0 := h.rest.own;have r1 := (h.rest.kept hN (J0q w G 12 (.bool true)) own0).kept hN (J0q _ G 13 (.int .i64 (-1))) own0;have r2 := r1.kept hN (m.grow none) (fun b hb => by cases hb);have g4 := J10 (J10 (J10 (J10 (J0j w2 (some G)) 14 a'.regs) 15 (a'.words N)) 16 (a'.past N)) 17 (.int .i64 s.pl.at_);have r3 := r2.kept hN g4 own0
 have hlG : lab' G = 0 := by
  cases hc : lab' G with
  | zero => rfl
  | succ n => have := (hl G (by rw [hc]; omega)).1; omega
 have p3 := hp.kept hN g4 (fun b hb => by rw [<- Option.some.inj hb, hlG]; unfold InR; omega);have hz : ∀ c, z.lab c ≠ 0 -> c < w.heap.size := fun c hc => (h.rest.lab c hc).2
 refine ⟨{ z with b0 := a'.regs, b1 := a'.words N, b2 := a'.past N, b3 := .int .i64 s.pl.at_, b := a', lab := fun c => if c < w.heap.size then z.lab c else lab' c }, fun j hj => ?_, r3.lt, fun c hc => ?_, ?_, fun _ => ⟨?_, rfl, rfl, rfl, rfl⟩, r3.seen, fun b hb => ?_, r3.sc, fun p hp => ?_⟩
 ·have hk : ∀ j v, Wr w G j v -> j ≠ 12 -> j ≠ 13 -> j < 14 -> Wr ((((w2.setCell ⟨G, 14, none⟩ a'.regs).setCell ⟨G, 15, none⟩ (a'.words N)).setCell ⟨G, 16, none⟩ (a'.past N)).setCell ⟨G, 17, none⟩ (.int .i64 s.pl.at_)) G j v := fun j v hv n1 n2 n3 =>
   ((((((hv.other _ _ _ (by omega)).other _ _ _ (by omega)).kept (m.grow none) (by simp)).other _ _ _ (by omega)).other _ _ _ (by omega)).other _ _ _ (by omega)).other _ _ _ (by omega)
  have hb : ∀ j v, Wr w G j v -> 14 <= j -> Wr w2 G j v := fun j v hv n => (((hv.other _ _ _ (by omega)).other _ _ _ (by omega)).kept (m.grow none) (by simp))
  revert j
  refine lt18 ?_ ?_ ?_ ?_ ?_ ?_ ?_ ?_ ?_ ?_ ?_ ?_ ?_ ?_ ?_ ?_ ?_ ?_
  ·exact hk 0 _ (h.cells 0 (by omega)) (by omega) (by omega) (by omega)
  ·exact hk 1 _ (h.cells 1 (by omega)) (by omega) (by omega) (by omega)
  ·exact hk 2 _ (h.cells 2 (by omega)) (by omega) (by omega) (by omega)
  ·exact hk 3 _ (h.cells 3 (by omega)) (by omega) (by omega) (by omega)
  ·exact hk 4 _ (h.cells 4 (by omega)) (by omega) (by omega) (by omega)
  ·exact hk 5 _ (h.cells 5 (by omega)) (by omega) (by omega) (by omega)
  ·exact hk 6 _ (h.cells 6 (by omega)) (by omega) (by omega) (by omega)
  ·exact hk 7 _ (h.cells 7 (by omega)) (by omega) (by omega) (by omega)
  ·exact hk 8 _ (h.cells 8 (by omega)) (by omega) (by omega) (by omega)
  ·exact hk 9 _ (h.cells 9 (by omega)) (by omega) (by omega) (by omega)
  ·exact hk 10 _ (h.cells 10 (by omega)) (by omega) (by omega) (by omega)
  ·exact hk 11 _ (h.cells 11 (by omega)) (by omega) (by omega) (by omega)
  ·exact (((((((h.cells 12 (by omega)).same _).other _ _ _ (by omega)).kept (m.grow none) (by simp)).other _ _ _ (by omega)).other _ _ _ (by omega)).other _ _ _ (by omega)).other _ _ _ (by omega)
  ·exact (((((((h.cells 13 (by omega)).other _ _ _ (by omega)).same _).kept (m.grow none) (by simp)).other _ _ _ (by omega)).other _ _ _ (by omega)).other _ _ _ (by omega)).other _ _ _ (by omega)
  ·exact ((((hb 14 _ (h.cells 14 (by omega)) (by omega)).same _).other _ _ _ (by omega)).other _ _ _ (by omega)).other _ _ _ (by omega)
  ·exact ((((hb 15 _ (h.cells 15 (by omega)) (by omega)).other _ _ _ (by omega)).same _).other _ _ _ (by omega)).other _ _ _ (by omega)
  ·exact ((((hb 16 _ (h.cells 16 (by omega)) (by omega)).other _ _ _ (by omega)).other _ _ _ (by omega)).same _).other _ _ _ (by omega)
  ·exact ((((hb 17 _ (h.cells 17 (by omega)) (by omega)).other _ _ _ (by omega)).other _ _ _ (by omega)).other _ _ _ (by omega)).same _
 ·dsimp only at hc
  split at hc
  ·exact r3.lab c hc
  ·have := hl c hc
   have h4 := g4.size;exact ⟨by omega, by omega⟩
 ·exact PlL.labs r3.cur (fun c hc => by dsimp only; rw [if_pos (hz c hc)])
 ·exact PlL.base (PlL.labs p3 (fun c hc => by dsimp only; rw [if_neg (by have := (hl c hc).1; omega)])) (by omega)
 ·have := h.rest.lseen b hb
  dsimp only;rw [if_pos (hz b (by omega))]; exact this
 ·have h3 := r3.box p hp
  refine ⟨h3.1, ?_, h3.2.2⟩;dsimp only;rw [if_pos (J14 (h.rest.box p hp).2.2)];exact h3.2.1

theorem RS.come (h : RS w G N y s mo z) (hN : N <= 384) (ha : s.ahead = true) :
  ∃ z', RS (((((w.setCell ⟨G, 12, none⟩ (.bool false)).setCell ⟨G, 0, none⟩ z.b0).setCell ⟨G, 1, none⟩ z.b1).setCell ⟨G, 2, none⟩ z.b2).setCell ⟨G, 3, none⟩ z.b3) G N y { s with ahead := false, pl := s.back } mo z' := by
 have own0 := h.rest.own;obtain ⟨hb, e0, e1, e2, e3⟩ := h.rest.back ha;have g5 := J10 (J10 (J10 (J10 (J10 (J0j w (some G)) 12 (.bool false)) 0 z.b0) 1 z.b1) 2 z.b2) 3 z.b3;have r := h.rest.kept hN g5 own0;have hb' := (r.back ha).1;refine ⟨{ z with a := z.b, lab := fun c => if z.lab c < 1000 then 0 else if z.lab c < 2000 then z.lab c - 1000 else z.lab c }, fun j hj => ?_, r.lt, fun c hc => r.lab c (fun e => hc (by dsimp only; rw [e]; rfl)), PlL.anew hb' hN (fun b hb => ?_), fun h => absurd h (by simp), r.seen, fun b hb => ?_, r.sc, fun p hp => ⟨(r.box p hp).1, by dsimp only; rw [(r.box p hp).2.1]; rfl, (r.box p hp).2.2⟩⟩
 ·have hk : ∀ j v, Wr w G j v -> j ≠ 12 -> 4 <= j -> Wr (((((w.setCell ⟨G, 12, none⟩ (.bool false)).setCell ⟨G, 0, none⟩ z.b0).setCell ⟨G, 1, none⟩ z.b1).setCell ⟨G, 2, none⟩ z.b2).setCell ⟨G, 3, none⟩ z.b3) G j v := fun j v hv n1 n2 =>
   ((((hv.other _ _ _ (by omega)).other _ _ _ (by omega)).other _ _ _ (by omega)).other _ _ _ (by omega)).other _ _ _ (by omega)
  revert j
  refine lt18 ?_ ?_ ?_ ?_ ?_ ?_ ?_ ?_ ?_ ?_ ?_ ?_ ?_ ?_ ?_ ?_ ?_ ?_
  ·have := (((((h.cells 0 (by omega)).other G 12 (.bool false) (by omega)).same z.b0).other G 1 z.b1 (by omega)).other G 2 z.b2 (by omega)).other G 3 z.b3 (by omega)
   exact (congrArg _ e0).mp this
  ·have := (((((h.cells 1 (by omega)).other G 12 (.bool false) (by omega)).other G 0 z.b0 (by omega)).same z.b1).other G 2 z.b2 (by omega)).other G 3 z.b3 (by omega)
   exact (congrArg _ e1).mp this
  ·have := (((((h.cells 2 (by omega)).other G 12 (.bool false) (by omega)).other G 0 z.b0 (by omega)).other G 1 z.b1 (by omega)).same z.b2).other G 3 z.b3 (by omega)
   exact (congrArg _ e2).mp this
  ·have := (((((h.cells 3 (by omega)).other G 12 (.bool false) (by omega)).other G 0 z.b0 (by omega)).other G 1 z.b1 (by omega)).other G 2 z.b2 (by omega)).same z.b3
   exact (congrArg _ e3).mp this
  ·exact hk 4 _ (h.cells 4 (by omega)) (by omega) (by omega)
  ·exact hk 5 _ (h.cells 5 (by omega)) (by omega) (by omega)
  ·exact hk 6 _ (h.cells 6 (by omega)) (by omega) (by omega)
  ·exact hk 7 _ (h.cells 7 (by omega)) (by omega) (by omega)
  ·exact hk 8 _ (h.cells 8 (by omega)) (by omega) (by omega)
  ·exact hk 9 _ (h.cells 9 (by omega)) (by omega) (by omega)
  ·exact hk 10 _ (h.cells 10 (by omega)) (by omega) (by omega)
  ·exact hk 11 _ (h.cells 11 (by omega)) (by omega) (by omega)
  ·exact (((((h.cells 12 (by omega)).same (.bool false)).other G 0 z.b0 (by omega)).other G 1 z.b1 (by omega)).other G 2 z.b2 (by omega)).other G 3 z.b3 (by omega)
  ·exact hk 13 _ (h.cells 13 (by omega)) (by omega) (by omega)
  ·exact hk 14 _ (h.cells 14 (by omega)) (by omega) (by omega)
  ·exact hk 15 _ (h.cells 15 (by omega)) (by omega) (by omega)
  ·exact hk 16 _ (h.cells 16 (by omega)) (by omega) (by omega)
  ·exact hk 17 _ (h.cells 17 (by omega)) (by omega) (by omega)
 ·unfold InR at hb
  dsimp only;rw [if_neg (by omega), if_pos (by omega)];omega
 ·have := h.rest.lseen b hb
  dsimp only;rw [this]; rfl
end
end
section
open Go.RowKit
set_option linter.unusedSimpArgs false
set_option linter.unusedVariables false
set_option maxRecDepth 8000
theorem Jel (w : World) (G N : Nat) (y : Ys) (s : Sp) (mo : List (Nat × Obj)) (k a b : Int) (hl : s.seen.length <= 200000) (h : R4 w G N y s mo) :
  Calls Tryz.prog 24 #[.pointer (some ⟨G, 0, none⟩), .int .i64 k, .int .i64 a, .int .i64 b] w fun e w' => e = .returned (.tuple #[]) /\ R4 w' G N y (s.see ⟨k, a, b⟩) mo /\ Below G w w' := by
 obtain ⟨hN, z, hz⟩ := h.out;have ho := hz.rest.seen;obtain ⟨sa, sc, hsv⟩ := J27 ho;obtain ⟨c9, f9⟩ := hz.cells 9 (by omega);replace c9 : w.cell? ⟨G, 9, none⟩ = some (.slice sa s.seen.length sc) := by rw [<- hsv]; exact c9
 obtain ⟨i2, hi2, hz0, hz1, hz2⟩ := info_parts Jio;have Hi : Hid (Tryz.prog.info? 96 = some i2 /\ i2.zero = some (.agg #[.int .i64 0, .int .i64 0, .int .i64 0]) /\ i2.size = 3 /\ i2.bytes = 24) := ⟨hi2, hz0, hz1, hz2⟩;have H : Hid (RS w G N y s mo z /\ z.sv = .slice sa s.seen.length sc /\ s.seen.length <= 200000 /\ G < w.heap.size /\ N <= 384) := ⟨hz, hsv, hl, hz.rest.lt, hN⟩;have Hrow : Hid (∀ b, (Value.slice sa s.seen.length sc).ownBlock = some b -> G < b) := fun b hb => (World.ownsRow.lt ho b (by rw [hsv]; exact hb)).1
 have Hown : Hid (SeenOwn (w.alloc (.cells #[.int .i64 k, .int .i64 a, .int .i64 b] 96)) (G + 1) (.slice sa s.seen.length sc) s.seen) := by rw [<- hsv]; exact ho.kept (World.grownBy_alloc w _ none) (fun b hb => by cases hb)
 have Hc : Hid (Wr w G 9 (.slice sa s.seen.length sc)) := ⟨c9, f9⟩;clear hi2 hz0 hz1 hz2 ho hz h hl hsv f9;obtain ⟨se, hse⟩ : ∃ se, s.seen = se := ⟨_, rfl⟩;rw [hse] at H Hrow Hown c9 Hc;go_enter Tryz.func24, Tryz.ntmps24;go_wp2_with (at_builtin; refine wpList_append_lies _ rfl (.tmp 13) (.tmp 18) 40 rfl (G + 1) 96 i2 (.agg #[.int .i64 0, .int .i64 0, .int .i64 0]) 3 24 Tryz.underlying40 Hi.out.1 Hi.out.2.1 Hi.out.2.2.1 Hi.out.2.2.2 rfl (by decide) (.slice sa se.length sc) se.length (flatS se) rfl Hown.out ⟨w.heap.size, 0, none⟩ 1 1 [.int .i64 k, .int .i64 a, .int .i64 b] rfl rfl (by simpa using J6a w (.int .i64 k) (.int .i64 a) (.int .i64 b) 96) (fun x hx => by simp at hx; rcases hx with rfl | rfl | rfl <;> rfl) (by decide) (by have := H.out.2.2.1; unfold maxLen; omega) (by have := H.out.2.2.1; omega) (by have := H.out.2.2.2.1; simp; omega) (w.heap.size + 1) (by simp) ?_; intro g_ cap w2 own2 gr2 hat2 hlt2; obtain ⟨t5c, t5f⟩ := (Hc.out.kept (World.grownBy_alloc w (.cells #[.int .i64 k, .int .i64 a, .int .i64 b] 96) none) (by simp)).kept gr2 (fun e => by have := Hrow.out G e.symm; omega))
 go_end0;obtain ⟨hz, hsv, hl, hlt, hN⟩ := H.out;have h1 := hz.kept hN (World.grownBy_alloc w (.cells #[.int .i64 k, .int .i64 a, .int .i64 b] 96) none) (fun b hb => by cases hb)
 have h2 := h1.shown (w' := w2) hN (se ++ [⟨k, a, b⟩]) (.slice (some ⟨g_, 0, none⟩) (se.length + 1) cap) (by unfold SeenOwn; rw [J3y, List.length_append]; exact own2) (by rw [hsv]; exact gr2) (fun b hb => by
  have hb' : g_ = b := by simpa [Value.ownBlock] using hb
  subst hb';rw [hsv];rcases hat2 with h | h
  ·exact .inl h
  ·right; simp; omega)
 have e : s.see ⟨k, a, b⟩ = { s with seen := se ++ [⟨k, a, b⟩] } := by unfold Sp.see; rw [hse]
 rw [e];exact ⟨rfl, ⟨hN, _, h2⟩, J0a (Below.grown (J4o (Below.refl _ _) (Nat.le_of_lt hlt) _) gr2 (by simp; omega) (fun b hb => Nat.le_of_lt (Hrow.out b hb))) _ _⟩

theorem J70 (w : World) (G N : Nat) (y : Ys) (s : Sp) (mo : List (Nat × Obj)) (h : R4 w G N y s mo) :
  Calls Tryz.prog 45 #[.pointer (some ⟨G, 0, none⟩)] w fun e w' => e = .returned (.int .i64 s.choice) /\ R4 w' G N y { s with script := s.script.tail } mo /\ Below G w w' := by
 obtain ⟨hN, z, hz⟩ := h.out;obtain ⟨sa, cap, hsc, hcap, hl⟩ := hz.rest.sc.out;obtain ⟨c11, f11⟩ := hz.cells 11 (by omega);replace c11 : w.cell? ⟨G, 11, none⟩ = some (.slice sa s.script.length cap) := by rw [<- hsc]; exact c11
 have H : Hid (RS w G N y s mo z /\ N <= 384) := ⟨hz, hN⟩;unfold Sp.choice;obtain ⟨pl, ahead, since, back, L, seen⟩ := s;dsimp only at c11 hcap hl hsc |-;cases L with
 | nil =>
  clear hz hl h hsc;go_enter Tryz.func45, Tryz.ntmps45;go_wp2;go_ret;exact ⟨rfl, ⟨H.out.2, z, H.out.1⟩, Below.refl _ _⟩
 | cons c L =>
  obtain ⟨sb, so, rfl, hsb, hcell⟩ := hl (by simp);have c0 := hcell 0 c (by simp);rw [Nat.add_zero] at c0;have Hc : Hid (sb < G /\ ∀ j c', (c :: L)[j]? = some c' -> w.cell? ⟨sb, so + j, none⟩ = some (.int .i64 c')) := ⟨hsb, hcell⟩;have hne : ¬ sb = G := by omega
  have hn1 : (1 : Int) <= ((c :: L).length : Int) := by simp; omega
  have hn2 : ((c :: L).length : Int) <= (cap : Int) := by omega
  obtain ⟨n, hn⟩ : ∃ n, (c :: L).length = n := ⟨_, rfl⟩;have Hn : Hid ((c :: L).length = n) := hn;rw [hn] at c11 hn1 hn2 hcap;have hn0 : ¬ (n : Int) = 0 := by omega
  have hn3 : ¬ n = 0 := by omega
  have hz' : ((n : Int) == 0) = false := by simp; omega
  have hcap1 : 1 <= cap := by omega
  clear hz h hl hcell hn hsc;by_cases e1 : cap = 1
  ·subst e1
   go_enter Tryz.func45, Tryz.ntmps45;go_wp2;go_ret;have hL : L = [] := by have := Hn.out; simp at this; cases L with | nil => rfl | cons a l => simp at this; omega
   subst hL;exact ⟨rfl, ⟨H.out.2, _, H.out.1.setSc H.out.2 _ [] ⟨_, _, rfl, Nat.zero_le _, fun h => absurd rfl h⟩⟩, J0a (Below.refl _ _) _ _⟩
  ·go_enter Tryz.func45, Tryz.ntmps45
   go_wp2;go_ret;have hL : n - 1 = L.length := by have := Hn.out; simp at this; omega
   refine ⟨rfl, ⟨H.out.2, _, H.out.1.setSc H.out.2 _ L ⟨some ⟨sb, so + 1, none⟩, cap - 1, by rw [<- hL], by omega, fun h => ⟨sb, so + 1, rfl, Hc.out.1, fun j c' hc => ?_⟩⟩⟩, J0a (Below.refl _ _) _ _⟩;rw [show so + 1 + j = so + (j + 1) by omega];exact Hc.out.2 (j + 1) c' (by simpa using hc)

theorem J8j (w : World) (G N : Nat) (y : Ys) (s : Sp) (mo : List (Nat × Obj)) (hp : ∀ j, j < N -> (s.pl.past j).length <= 100000) (h : R4 w G N y s mo) :
  Calls Tryz.prog 46 #[.pointer (some ⟨G, 0, none⟩)] w fun e w' => e = .returned (.tuple #[]) /\ R4 w' G N y s.leave mo /\ Below G w w' := by
 obtain ⟨hN, z, hz⟩ := h.out;cases ha : s.ahead with
 | true =>
  have c12 := (hz.cells 12 (by omega)).1;replace c12 : w.cell? ⟨G, 12, none⟩ = some (.bool true) := by rw [<- ha]; exact c12
  have H : Hid (R4 w G N y s mo /\ s.ahead = true) := ⟨h, ha⟩;clear h hz hp ha;go_enter Tryz.func46, Tryz.ntmps46;go_wp2;go_end0;refine ⟨rfl, ?_, Below.refl _ _⟩;unfold Sp.leave;rw [if_pos H.out.2];exact H.out.1
 | false =>
  obtain ⟨c12, f12⟩ := hz.cells 12 (by omega);replace c12 : w.cell? ⟨G, 12, none⟩ = some (.bool false) := by rw [<- ha]; exact c12
  obtain ⟨c13, f13⟩ := hz.cells 13 (by omega);obtain ⟨c0, _⟩ := hz.cells 0 (by omega);obtain ⟨c1, _⟩ := hz.cells 1 (by omega);obtain ⟨c2, _⟩ := hz.cells 2 (by omega);obtain ⟨c3, _⟩ := hz.cells 3 (by omega);dsimp only [gV] at c13 c0 c1 c2 c3;obtain ⟨w1, hw1⟩ : ∃ w1, (w.setCell ⟨G, 12, none⟩ (.bool true)).setCell ⟨G, 13, none⟩ (.int .i64 (-1)) = w1 := ⟨_, rfl⟩;have own0 := hz.rest.own;have r1 := (hz.rest.kept hN (J0q w G 12 (.bool true)) own0).kept hN (J0q _ G 13 (.int .i64 (-1))) own0;rw [hw1] at r1;have HC := J03 (Jem w1 _ N 0 z.lab s.pl z.a r1.cur hN hp 1000);have K14 : ∀ j, 14 <= j -> j < 18 -> ∃ v, Wr w1 G j v := fun j h1 h2 => ⟨_, by rw [<- hw1]; exact ((hz.cells j h2).other _ _ _ (by omega)).other _ _ _ (by omega)⟩
  have H : Hid (RS w G N y s mo z /\ N <= 384 /\ s.ahead = false /\ G < w.heap.size) := ⟨hz, hN, ha, hz.rest.lt⟩;have HK := J03 K14;have Hw1 := J03 hw1;dsimp only [PV.regs, PV.words, PV.past] at HC c0 c1 c2;clear h hz hp ha r1 own0 K14 hw1;go_enter Tryz.func46, Tryz.ntmps46;go_wp2_with (fail)
  rw [Hw1.out];refine HC.out.mono ?_;rintro e w2 ⟨a', lab', rfl, m2, hl2, hp2⟩;obtain ⟨v14, k14⟩ := HK.out 14 (by omega) (by omega);obtain ⟨v15, k15⟩ := HK.out 15 (by omega) (by omega);obtain ⟨v16, k16⟩ := HK.out 16 (by omega) (by omega);obtain ⟨v17, k17⟩ := HK.out 17 (by omega) (by omega);obtain ⟨q14, p14⟩ := k14.kept (m2.grow none) (by simp);obtain ⟨q15, p15⟩ := k15.kept (m2.grow none) (by simp);obtain ⟨q16, p16⟩ := k16.kept (m2.grow none) (by simp);obtain ⟨q17, p17⟩ := k17.kept (m2.grow none) (by simp);have H2 := J03 (And.intro m2 (And.intro hl2 hp2));clear k14 k15 k16 k17 m2 hl2 hp2 HC;obtain ⟨rg, rc, wg, wa, wc, pg, pa, pc, P⟩ := a';dsimp only;go_wp2;go_end0;obtain ⟨hz, hN, ha, hlt⟩ := H.out;obtain ⟨m2, hl2, hp2⟩ := H2.out;obtain ⟨z', hz'⟩ := hz.left hN ha Hw1.out.symm m2 lab' _ hl2 hp2;refine ⟨rfl, ⟨hN, z', hz'⟩, ?_⟩;refine J0a (J0a (J0a (J0a (J0l ?_ ?_ m2) _ _) _ _) _ _) _ _
  ·rw [<- Hw1.out]; exact J0a (J0a (Below.refl _ _) _ _) _ _
  ·rw [<- Hw1.out]; simp; omega

theorem J7w (w : World) (G N : Nat) (y : Ys) (s : Sp) (mo : List (Nat × Obj)) (hl : s.seen.length <= 200000) (ha : s.ahead = true) (h : R4 w G N y s mo) :
  Calls Tryz.prog 23 #[.pointer (some ⟨G, 0, none⟩)] w fun e w' => e = .returned (.tuple #[]) /\ R4 w' G N y s.returns mo /\ Below G w w' := by
 have HS := J03 (Jel w G N y s mo 4 0 0 hl h);have Ha := J03 ha;clear h hl ha;go_enter Tryz.func23, Tryz.ntmps23;go_wp2_with (fail)
 refine HS.out.mono ?_;rintro e w2 ⟨rfl, r2, b2⟩;obtain ⟨hN, z, hz⟩ := r2.out;obtain ⟨c12, f12⟩ := hz.cells 12 (by omega);obtain ⟨c0, f0⟩ := hz.cells 0 (by omega);obtain ⟨c1, f1⟩ := hz.cells 1 (by omega);obtain ⟨c2, f2⟩ := hz.cells 2 (by omega);obtain ⟨c3, f3⟩ := hz.cells 3 (by omega);obtain ⟨c14, _⟩ := hz.cells 14 (by omega);obtain ⟨c15, _⟩ := hz.cells 15 (by omega);obtain ⟨c16, _⟩ := hz.cells 16 (by omega);obtain ⟨c17, _⟩ := hz.cells 17 (by omega);obtain ⟨_, e0, e1, e2, e3⟩ := hz.rest.back Ha.out;dsimp only [gV, PV.regs, PV.words, PV.past] at c12 c0 c1 c2 c3 c14 c15 c16 c17 e0 e1 e2 e3;rw [e0] at c14;rw [e1] at c15;rw [e2] at c16;rw [e3] at c17;have H2 := J03 (And.intro hz (And.intro hN (And.intro b2 (And.intro e0 (And.intro e1 (And.intro e2 e3))))));clear r2 b2 hz hN HS e0 e1 e2 e3;go_wp2;go_end0;obtain ⟨hz, hN, b2, e0, e1, e2, e3⟩ := H2.out;obtain ⟨z', hz'⟩ := hz.come hN Ha.out;rw [e0, e1, e2, e3] at hz';refine ⟨rfl, ⟨hN, z', hz'⟩, ?_⟩;exact J0a (J0a (J0a (J0a (J0a b2 _ _) _ _) _ _) _ _) _ _
structure RP (w : World) (G N : Nat) (p : Prg) (l : Loc) (y : Ys) : Prop where
 rv : y.rv = .slice l.ra p.rl l.rc
 cv : y.cv = .slice l.ca p.cl l.cc
 hra : 0 < p.rl -> l.ra = some ⟨l.rb, l.ro, none⟩
 regs : RegsAt w l.rb l.ro p.rl p.log p.sec
 lt : 0 < p.rl -> l.rb < G
 ok : J0g p.rl p.log
 n : (N : Int) = allI p
theorem RP.below {w w' : World} {G N : Nat} {p : Prg} {l : Loc} {y : Ys} (h : RP w G N p l y) (b : Below G w w') : RP w' G N p l y :=
 ⟨h.rv, h.cv, h.hra, fun i hi => ⟨by rw [Below.cell b (by dsimp only; exact h.lt (by omega))]; exact (h.regs i hi).1, by rw [Below.cell b (by dsimp only; exact h.lt (by omega))]; exact (h.regs i hi).2⟩, h.lt, h.ok, h.n⟩
theorem J4n (W : World) : ∃ S : World -> Prop, Hid (∀ w', S w' ↔ More W w') := ⟨_, fun _ => Iff.rfl⟩
theorem J0x {W : World} {S : World -> Prop} (HS : Hid (∀ w', S w' ↔ More W w')) {ad : Addr} {v : Value} (h : W.cell? ad = some v) : ∀ i : { w' // S w' }, i.val.cell? ad = some v := fun i => ((HS.out _).1 i.property).cell h
theorem s_ne {W : World} {S : World -> Prop} (HS : Hid (∀ w', S w' ↔ More W w')) : Nonempty { w' // S w' } := ⟨⟨W, (HS.out _).2 (More.refl _)⟩⟩
theorem J4m {W : World} {S : World -> Prop} (HS : Hid (∀ w', S w' ↔ More W w')) : S W.drew := (HS.out _).2 (More.refl _).drew
def WordPost (p : Prg) (s : Sp) (i : Ins) (w' : World) (G N : Nat) (y : Ys) (mo : List (Nat × Obj)) : Prop :=
 if s.ahead = false /\ (idxI s.pl.r i < 0 \/ J0c (p.log i.c.toNat) <= idxI s.pl.r i) then R4 w' G N { y with e := 2 } s mo
 else R4 w' G N y (wordS p ((s.see ⟨2, numS p s i, putI i⟩).go (s.pl.at_ + 1)) i (numS p s i)) mo

theorem Jk7 (p : Prg) (l : Loc) (i : Ins) (w : World) (G N : Nat) (y : Ys) (s : Sp) (mo : List (Nat × Obj)) (h : R4 w G N y s mo) (hp : RP w G N p l y) (hl : s.seen.length <= 200000) (hpast : ∀ j, j < N -> (s.pl.past j).length <= 99999) (hat : s.pl.at_ <= 100000)
  (a0 : 0 <= i.a) (a1 : i.a < 10) (b0 : 0 <= i.b) (b1 : i.b < 10) (c0 : 0 <= i.c) (c1 : i.c < (p.rl : Int)) (hput : putI i = 0 \/ putI i = 1) :
  Calls Tryz.prog 47 #[.pointer (some ⟨G, 0, none⟩), .agg #[.int .i64 i.op, .int .i64 i.a, .int .i64 i.b, .int .i64 i.c, .int .i64 i.n], .int .i64 (putI i)] w fun e w' => e = .returned (.tuple #[]) /\ Below G w w' /\ WordPost p s i w' G N y mo := by
 suffices H0 : ∀ P : Ending -> World -> Prop, (∀ e w', (e = .returned (.tuple #[]) /\ Below G w w' /\ WordPost p s i w' G N y mo) -> P e w') -> Calls Tryz.prog 47 #[.pointer (some ⟨G, 0, none⟩), .agg #[.int .i64 i.op, .int .i64 i.a, .int .i64 i.b, .int .i64 i.c, .int .i64 i.n], .int .i64 (putI i)] w P from H0 _ (fun _ _ h => h)
 intro P hP;have HP := J03 hP;have hG := h.lt;obtain ⟨ra, rb, ro, rc, ca, cb, co, cc⟩ := l;have hpos : 0 < p.rl := by omega
 obtain rfl : ra = some ⟨rb, ro, none⟩ := hp.hra hpos;have hrb : rb < G := hp.lt hpos;obtain ⟨c, hc⟩ : ∃ c : Nat, i.c = c := ⟨i.c.toNat, by omega⟩;have hcr : c < p.rl := by omega
 obtain ⟨op, a, b, c_, n_⟩ := i;dsimp only at a0 a1 b0 b1 c0 c1 hc hput |-;subst hc;have Hp := J03 (And.intro hp (And.intro hcr (And.intro hl (And.intro hpast hat))));have h1 := h.beside (.cells #[.int .i64 op, .int .i64 a, .int .i64 b, .int .i64 (c : Int), .int .i64 n_] 53);have H1 := J03 h1;obtain ⟨g, gc, w0, hr, hGg⟩ := h.regs;have d0 := w0.1;have HI := J03 (Jen ⟨op, a, b, c, n_⟩ g (gc := gc) s.pl.r ((w.alloc (.cells #[.int .i64 op, .int .i64 a, .int .i64 b, .int .i64 (c : Int), .int .i64 n_] 53)).drew) (hr.alloc _ _).drew b0 b1);obtain ⟨ix, hix⟩ : ∃ x, idxI s.pl.r ⟨op, a, b, c, n_⟩ = x := ⟨_, rfl⟩;dsimp only at HI;rw [hix] at HI;have Hix := J03 hix;obtain ⟨pu, hpu⟩ : ∃ x, putI ⟨op, a, b, c, n_⟩ = x := ⟨_, rfl⟩;rw [hpu] at hput |-;have Hpu := J03 (And.intro hpu hput);have H := J03 h;obtain ⟨W, hW⟩ : ∃ W, w.alloc (.cells #[.int .i64 op, .int .i64 a, .int .i64 b, .int .i64 (c : Int), .int .i64 n_] 53) = W := ⟨_, rfl⟩;rw [hW] at H1 HI;have bx : W.heap[w.heap.size]? = some (.cells #[.int .i64 op, .int .i64 a, .int .i64 b, .int .i64 (c : Int), .int .i64 n_] 53) := H1.out.left (List.mem_cons_self);have bW : Below G w W := by rw [<- hW]; exact J4o (Below.refl _ _) (Nat.le_of_lt hG) _
 have mW : More w W := by rw [<- hW]; exact (More.refl _).alloc _ _
 have HW := J03 (And.intro hW (And.intro bW (And.intro bx mW)));obtain ⟨S, HS⟩ := J4n W;have j0 := J0x HS (mW.cell d0);have k0 := J0x HS (J06 bx 0 (.int .i64 op) (by simp));have k1 := J0x HS (J06 bx 1 (.int .i64 a) (by simp));have k2 := J0x HS (J06 bx 2 (.int .i64 b) (by simp));have k3 := J0x HS (J06 bx 3 (.int .i64 (c : Int)) (by simp));have k4 := J0x HS (J06 bx 4 (.int .i64 n_) (by simp));have hne := s_ne HS;have hS := J4m HS;clear h hp hl hpast hat h1 w0 hr hix hpu hP hput hW bx bW mW d0;go_enter Tryz.func47, Tryz.ntmps47;go_wp2_with (fail)
 rw [HW.out.1];refine J01 (S := S) [(0, true), (1, true), (2, true), (3, true), (4, true), (5, true), (6, false), (7, true)] (by kernel_rfl) (by kernel_rfl) (by kernel_rfl) hS ?_
 iterate 6 (refine J00 rfl (by kernel_rfl) (fun K hK => ?_); go_simp; refine hK _ _ ?_; clear hK K)
 refine J02 rfl (by kernel_rfl) (fun K hK => ?_); go_simp;refine HI.out.mono ?_;rintro e w2 ⟨rfl, m2⟩
 go_simp
 refine hK _ _ ((HS.out _).2 ((More.refl _).drew.trans m2)) ?_; clear hK K;refine J00 rfl (by kernel_rfl) (fun K hK => ?_); go_simp; refine hK _ _ ?_; clear hK K;refine J04 ?_;have H2 := J03 (And.intro (H1.out.drew.more m2) (J0l (J0u HW.out.2.1) (Nat.le_of_lt H1.out.lt) m2));clear j0 k0 k1 k2 k3 k4 hne hS HS m2 S HI;obtain ⟨S, HS⟩ := J4n w2;have bx := H2.out.1.left (List.mem_cons_self);have k3 := J0x HS (J06 bx 3 (.int .i64 (c : Int)) (by simp));have j4 := J0x HS (v := .slice (some ⟨rb, ro, none⟩) p.rl rc) (ad := ⟨G, 4, none⟩) (by rw [<- Hp.out.1.rv]; exact H2.out.1.rv.1);have rr := (Hp.out.1.below H2.out.2).regs c hcr;dsimp only at rr;have Hlog : Hid (0 <= p.log c /\ p.log c <= 6) := Hp.out.1.ok.2 c hcr;obtain ⟨lc, hlc⟩ : ∃ x, p.log c = x := ⟨_, rfl⟩;obtain ⟨sc, hsc⟩ : ∃ x, p.sec c = x := ⟨_, rfl⟩;rw [hlc, hsc] at rr;rw [hlc] at Hlog;have Hlc := J03 hlc;have r0 := J0x HS rr.1;have r1 := J0x HS rr.2;have hne := s_ne HS;have hS := J4m HS;have HX := J03 (J3a lc Hlog.out.1 Hlog.out.2 sc w2.drew);obtain ⟨nw, hnw⟩ : ∃ x, J0c lc = x := ⟨_, rfl⟩;rw [hnw] at HX;have Hnw : Hid (J0c (p.log c) = nw) := by rw [Hlc.out]; exact hnw
 clear bx rr hlc hsc hnw;go_wp2_with (fail)
 refine J01 (S := S) [(0, true), (1, true), (2, true), (3, true), (4, true), (5, true), (6, true), (7, true), (8, true), (9, false), (10, true)] (by kernel_rfl) (by kernel_rfl) (by kernel_rfl) hS ?_
 iterate 9 (refine J00 rfl (by kernel_rfl) (fun K hK => ?_); go_simp; refine hK _ _ ?_; clear hK K)
 refine J02 rfl (by kernel_rfl) (fun K hK => ?_); go_simp;refine HX.out.mono ?_;rintro e w3 ⟨rfl, m3⟩
 go_simp
 refine hK _ _ ((HS.out _).2 ((More.refl _).drew.trans m3)) ?_; clear hK K;refine J00 rfl (by kernel_rfl) (fun K hK => ?_); go_simp; refine hK _ _ ?_; clear hK K;refine J04 ?_;have H3 := J03 (And.intro (H2.out.1.drew.more m3) (J0l (J0u H2.out.2) (Nat.le_of_lt H2.out.1.lt) m3));clear k3 j4 r0 r1 hne hS HS m3 S HX H2;have c12 := H3.out.1.ahead.1;by_cases hf : s.ahead = false /\ (ix < 0 \/ nw <= ix)
 ·rw [hf.1] at c12
  obtain ⟨c6, f6⟩ := H3.out.1.e;have Hf := J03 hf;have HE := J03 (H3.out.1.setE 2)
  have hend : ∀ e w', e = Ending.returned (.tuple #[]) -> w' = w3.setCell ⟨G, 6, none⟩ (.int .i64 2) -> P e w' := fun e w' he hw' => by
   subst he hw';refine HP.out _ _ ⟨rfl, J0a H3.out.2 _ _, ?_⟩;unfold WordPost;rw [if_pos (by dsimp only; rw [Hix.out, Int.toNat_natCast, Hnw.out]; exact Hf.out)];exact HE.out.fewer mo (fun q hq => List.mem_cons_of_mem _ hq)
  have Hend := J03 hend;clear hend HE;by_cases hx : ix < 0
  ·go_wp2
   refine bodyPost_ret (results_none (by kernel_rfl) _ _ _) rfl ?_;exact Hend.out _ _ rfl rfl
  ·have hx2 : nw <= ix := by omega
   go_wp2;refine bodyPost_ret (results_none (by kernel_rfl) _ _ _) rfl ?_;exact Hend.out _ _ rfl rfl
 have Hf : Hid (¬ (s.ahead = false /\ (idxI s.pl.r ⟨op, a, b, c, n_⟩ < 0 \/ J0c (p.log c) <= idxI s.pl.r ⟨op, a, b, c, n_⟩))) := by rw [Hix.out, Hnw.out]; exact hf
 have hx : s.ahead = true \/ (s.ahead = false /\ ¬ ix < 0 /\ ¬ nw <= ix) := by
  cases ha : s.ahead with
  | true => exact .inl rfl
  | false => right; refine ⟨rfl, ?_, ?_⟩ <;> (intro h; exact hf ⟨ha, by omega⟩)
 obtain ⟨S, HS⟩ := J4n w3;have bx := H3.out.1.left (List.mem_cons_self);have k3 := J0x HS (J06 bx 3 (.int .i64 (c : Int)) (by simp));have j4 := J0x HS (v := .slice (some ⟨rb, ro, none⟩) p.rl rc) (ad := ⟨G, 4, none⟩) (by rw [<- Hp.out.1.rv]; exact H3.out.1.rv.1);have j5 := J0x HS (v := .slice ca p.cl cc) (ad := ⟨G, 5, none⟩) (by rw [<- Hp.out.1.cv]; exact H3.out.1.cv.1);have hne := s_ne HS;have hS := J4m HS;have HX := J03 (Jbt (some ⟨rb, ro, none⟩) p.rl rc ca p.cl cc c rb ro p.log p.sec w3.drew (by omega) (by omega) (fun _ => rfl) ((Hp.out.1.below H3.out.2).regs.more (More.refl _).drew) Hp.out.1.ok);rw [Int.toNat_natCast] at HX;obtain ⟨bs, hbs⟩ : ∃ x, baseI p.log c = x := ⟨_, rfl⟩;rw [hbs] at HX;have Hbs := J03 hbs;clear bx hbs hf
 have Hwd : Hid (∀ w', Below G w w' -> R4 w' G N y (wordS p ((s.see ⟨2, wrap64 (bs + ix), pu⟩).go (s.pl.at_ + 1)) ⟨op, a, b, c, n_⟩ (wrap64 (bs + ix))) ((w.heap.size, .cells #[.int .i64 op, .int .i64 a, .int .i64 b, .int .i64 (c : Int), .int .i64 n_] 53) :: mo) -> P (.returned (.tuple #[])) w') := fun w' hb hr => by
  refine HP.out _ _ ⟨rfl, hb, ?_⟩;unfold WordPost;rw [if_neg (by dsimp only; rw [Int.toNat_natCast]; exact Hf.out)];have e : numS p s ⟨op, a, b, c, n_⟩ = wrap64 (bs + ix) := by unfold numS; dsimp only; rw [Hix.out, Int.toNat_natCast, Hbs.out]
  rw [e, Hpu.out.1];exact hr.fewer mo (fun q hq => List.mem_cons_of_mem _ hq)
 clear HP;rcases hx with hx | ⟨hx, hx1, hx2⟩
 all_goals (rw [hx] at c12; clear hx; go_wp2_with (fail))
 all_goals
  refine J01 (S := S) [(0, true), (1, true), (2, true), (3, true), (4, true), (5, true), (6, false), (7, true)] (by kernel_rfl) (by kernel_rfl) (by kernel_rfl) hS ?_
  iterate 6 (refine J00 rfl (by kernel_rfl) (fun K hK => ?_); go_simp; refine hK _ _ ?_; clear hK K)
  refine J02 rfl (by kernel_rfl) (fun K hK => ?_); go_simp;refine HX.out.mono ?_;rintro e w4 ⟨rfl, m4⟩
  go_simp
  refine hK _ _ ((HS.out _).2 ((More.refl _).drew.trans m4)) ?_; clear hK K;refine J00 rfl (by kernel_rfl) (fun K hK => ?_); go_simp; refine hK _ _ ?_; clear hK K;refine J04 ?_;have H4 := J03 (And.intro (H3.out.1.drew.more m4) (J0l (J0u H3.out.2) (Nat.le_of_lt H3.out.1.lt) m4));clear k3 j4 j5 hne hS HS m4 S HX H3 c12;have hwr := J2b;obtain ⟨nm, hnm⟩ : ∃ x, wrap64 (bs + ix) = x := ⟨_, rfl⟩;rw [hnm] at Hwd;have HV := J03 (Jel w4 G N y s _ 2 nm pu Hp.out.2.2.1 H4.out.1);go_wp2_with (fail)
  refine HV.out.mono ?_;rintro e w5 ⟨rfl, r5, b5⟩;obtain ⟨hN, ⟨sv, sc', q0, q1, q2, q3, ⟨rg, rgc, wg, wa, wc, pg, pa, pc, PP⟩, bb, lab⟩, hz⟩ := r5.out;have c3 := (hz.cells 3 (by omega)).1;have f3 := (hz.cells 3 (by omega)).2;have e0 := (hz.cells 0 (by omega)).1;have e1 := (hz.cells 1 (by omega)).1;have e2 := (hz.cells 2 (by omega)).1;dsimp only [gV, PV.words, PV.regs, PV.past] at c3 e0 e1 e2;replace c3 : w5.cell? ⟨G, 3, none⟩ = some (.int .i64 (s.pl.at_ : Int)) := c3;have bx5 := (hz.rest.box _ List.mem_cons_self);have x1 := J06 bx5.2.2 1 (.int .i64 a) (by simp);dsimp only at x1 bx5;have ya := hz.rest.cur.regs a.toNat (by omega);obtain ⟨ya, yf⟩ := ya;dsimp only at ya yf;have hlr := hz.rest.cur.lr;dsimp only at hlr;have n1 : ¬ rg = G := by have := (hz.rest.lab rg (by dsimp only; omega)).1; omega
  have n2 : ¬ rg = w.heap.size := fun e => by have := bx5.2.1; rw [<- e] at this; omega
  have n3 : ¬ w.heap.size = G := by omega
  have n1' : ¬ G = rg := fun e => n1 e.symm
  have n2' : ¬ w.heap.size = rg := fun e => n2 e.symm
  have n3' : ¬ G = w.heap.size := by omega
  have hz6 := hz.setAt hN (s.pl.at_ + 1) ((s.pl.at_ : Int) + 1) (by push_cast; rfl);have Hz := J03 (And.intro hz6 (And.intro hN (J0a (Below.trans H4.out.2 b5) 3 (.int .i64 ((s.pl.at_ : Int) + 1)))));have hat : wrap64 ((s.pl.at_ : Int) + 1) = (s.pl.at_ : Int) + 1 := by have := Hp.out.2.2.2.2; unfold wrap64; omega
  obtain ⟨at_, hat_⟩ : ∃ x : Int, (s.pl.at_ : Int) = x := ⟨_, rfl⟩;rw [hat_] at c3 hat Hz;have Hall : Hid ((N : Int) = allI p) := Hp.out.1.n;have Hw5 := J03 hz;obtain ⟨ra_, hra_⟩ : ∃ x, s.pl.r a.toNat = x := ⟨_, rfl⟩;replace ya : w5.cell? ⟨rg, a.toNat, none⟩ = some (.int .i64 (s.pl.r a.toNat)) := ya;rw [hra_] at ya;have Hra := J03 hra_;clear r5 b5 hz hz6 hnm hat_ HV H4 bx5 hlr hra_;by_cases hn : nm < 0 \/ (N : Int) <= nm
  ·have Hw : Hid (∀ s' : Sp, wordS p s' ⟨op, a, b, c, n_⟩ nm = if pu = 0 then s'.reg a 0 else s') := fun s' => by unfold wordS; rw [if_pos (by rw [<- Hall.out]; exact hn), Hpu.out.1]
   rw [Hw.out] at Hwd;rcases Hpu.out.2 with hp0 | hp1
   ·subst hp0
    rw [if_pos rfl] at Hwd
    have Hend : Hid (∀ w', (w5.setCell ⟨G, 3, none⟩ (.int .i64 (at_ + 1))).drew.setCell ⟨rg, a.toNat, none⟩ (.int .i64 0) = w' -> P (.returned (.tuple #[])) w') := fun w' hw' => by
     obtain ⟨h6, hN, hb⟩ := Hz.out;have h7 := (h6.kept hN (J22 _ none) (fun b hb => by cases hb)).setReg hN a 0;subst hw';refine Hwd.out _ (Below.setCell (J0u hb) ?_ _) ⟨hN, _, h7⟩;have := (h6.rest.lab rg (fun e => by have := h6.rest.cur.lr; dsimp only at this e; omega)).1;dsimp only;omega
    obtain ⟨S, HS⟩ := J4n (w5.setCell ⟨G, 3, none⟩ (.int .i64 (at_ + 1)));have j0 := J0x HS (ad := ⟨G, 0, none⟩) (v := .slice (some ⟨rg, 0, none⟩) 10 rgc) (by rw [World.cell?_setCell_other _ _ _ _ (by simp)]; exact e0);have k1 := J0x HS (ad := ⟨w.heap.size, 1, none⟩) (v := .int .i64 a) (by rw [World.cell?_setCell_other _ _ _ _ (by simp [n3'])]; exact x1);have hne := s_ne HS;have hS := J4m HS;rcases hn with hn | hn
    ·go_wp2_with (fail)
     refine J0i (S := S) [(0, true), (1, true), (2, true), (3, true), (4, true), (5, true), (6, true), (7, true), (8, false)] (by kernel_rfl) (by kernel_rfl) (by kernel_rfl) hS ?_
     iterate 8 (refine J0d rfl (by kernel_rfl) (fun K hK => ?_); go_simp; refine hK _ _ ?_; clear hK K)
     refine J0v rfl (by kernel_rfl) (by kernel_rfl) (fun K hK => ?_)
     go_simp
     refine hK _ _ ?_;clear hK K j0 k1 hne hS;refine NoPanic.normal ?_;go_wp2;refine bodyPost_ret (results_none (by kernel_rfl) _ _ _) rfl ?_;exact Hend.out _ rfl
    ·have hn' : ¬ nm < 0 := by omega
     go_wp2_with (fail)
     refine J0i (S := S) [(0, true), (1, true), (2, true), (3, true), (4, true), (5, true), (6, true), (7, true), (8, false)] (by kernel_rfl) (by kernel_rfl) (by kernel_rfl) hS ?_
     iterate 8 (refine J0d rfl (by kernel_rfl) (fun K hK => ?_); go_simp; refine hK _ _ ?_; clear hK K)
     refine J0v rfl (by kernel_rfl) (by kernel_rfl) (fun K hK => ?_)
     go_simp
     refine hK _ _ ?_;clear hK K j0 k1 hne hS;refine NoPanic.normal ?_;go_wp2;refine bodyPost_ret (results_none (by kernel_rfl) _ _ _) rfl ?_;exact Hend.out _ rfl
   ·subst hp1
    rw [if_neg (by decide)] at Hwd;rcases hn with hn | hn
    ·go_wp2
     refine bodyPost_ret (results_none (by kernel_rfl) _ _ _) rfl ?_;exact Hwd.out _ Hz.out.2.2 ⟨Hz.out.2.1, _, Hz.out.1⟩
    ·have hn' : ¬ nm < 0 := by omega
     go_wp2;refine bodyPost_ret (results_none (by kernel_rfl) _ _ _) rfl ?_;exact Hwd.out _ Hz.out.2.2 ⟨Hz.out.2.1, _, Hz.out.1⟩
  ·obtain ⟨q, rfl⟩ : ∃ q : Nat, nm = q := ⟨nm.toNat, by omega⟩
   have hq : q < N := by omega
   have hq0 : (0 : Int) <= (q : Int) := by omega
   have hq1 : (q : Int) < (N : Int) := by omega
   have hq2 : ¬ (q : Int) < 0 := by omega
   have hq3 : ¬ (N : Int) <= (q : Int) := by omega
   have Hin : Hid (¬ ((q : Int) < 0 \/ allI p <= (q : Int))) := fun h => by rw [<- Hall.out] at h; omega
   obtain ⟨W6, hW6⟩ : ∃ W6, w5.setCell ⟨G, 3, none⟩ (.int .i64 (at_ + 1)) = W6 := ⟨_, rfl⟩;rw [hW6] at Hz;have HW6 := J03 hW6;have Hq := J03 hq;clear hW6;rcases Hpu.out.2 with hp0 | hp1
   ·subst hp0
    have Hw : Hid (∀ s' : Sp, wordS p s' ⟨op, a, b, c, n_⟩ (q : Int) = if 0 < s'.choice /\ s'.choice <= ((s'.pl.past q).length : Int) then (({ s' with script := s'.script.tail }.reg a (s'.pl.wd q)).leave).reg a ((s'.pl.past q).getD ((s'.pl.past q).length - s'.choice.toNat) 0) else { s' with script := s'.script.tail }.reg a (s'.pl.wd q)) := fun s' => by unfold wordS; rw [if_neg Hin.out, Hpu.out.1, if_neg (by decide), Int.toNat_natCast]
    rw [Hw.out] at Hwd;obtain ⟨s6, hs6⟩ : ∃ s6, (s.see ⟨2, (q : Int), 0⟩).go (s.pl.at_ + 1) = s6 := ⟨_, rfl⟩;have Hpl : Hid (∀ j, j < N -> (s6.pl.past j).length <= 99999) := by rw [<- hs6]; exact Hp.out.2.2.2.1
    have Hr6 : Hid (s6.pl.r = s.pl.r) := by rw [<- hs6]; rfl
    rw [hs6] at Hwd Hz;have HC := J03 (J70 W6 G N y s6 _ ⟨Hz.out.2.1, _, Hz.out.1⟩);obtain ⟨ch, hch⟩ : ∃ x, s6.choice = x := ⟨_, rfl⟩;rw [hch] at HC Hwd;have Hb6 : Hid (Below G w W6 /\ N <= 384) := ⟨Hz.out.2.2, Hz.out.2.1⟩;clear hs6 hch;go_wp2_with (fail)
    rw [HW6.out];refine HC.out.mono ?_;rintro e w7 ⟨rfl, r7, b7⟩;clear c3 f3 e0 e1 e2 x1 ya yf n1 n2 n1' n2' Hz Hw5 HC;obtain ⟨_, ⟨zsv, zsc, z0, z1, z2, z3, ⟨zrg, zrc, zwg, zwa, zwc, zpg, zpa, zpc, zP⟩, zb, zlab⟩, h7⟩ := r7.out;have hwa := h7.rest.cur.wa (by omega);have hpa := h7.rest.cur.pa (by omega);dsimp only at hwa hpa;subst hwa hpa;obtain ⟨S, HS⟩ := J4n w7;have j0 := J0x HS (ad := ⟨G, 0, none⟩) (v := .slice (some ⟨zrg, 0, none⟩) 10 zrc) (h7.cells 0 (by omega)).1;have j1 := J0x HS (ad := ⟨G, 1, none⟩) (v := .slice (some ⟨zwg, 0, none⟩) N zwc) (h7.cells 1 (by omega)).1;have bx7 := h7.rest.box _ List.mem_cons_self;have k1 := J0x HS (J06 bx7.2.2 1 (.int .i64 a) (by simp));obtain ⟨wq, hwq⟩ : ∃ x, s6.pl.wd q = x := ⟨_, rfl⟩;have y1 := J0x HS (ad := ⟨zwg, q, none⟩) (v := .int .i64 wq) (by rw [<- hwq]; exact (h7.rest.cur.words q hq).1);have ya := (h7.rest.cur.regs a.toNat (by omega)).1;have yf := (h7.rest.cur.regs a.toNat (by omega)).2;dsimp only at ya yf k1;have hne := s_ne HS;have hS := J4m HS;have H7 := J03 (And.intro h7 (Below.trans Hb6.out.1 b7));have Hwq := J03 hwq;clear h7 b7 r7 bx7 hwq;go_wp2_with (fail)
    refine J0i (S := S) [(0, true), (1, true), (2, true), (3, true), (4, true), (5, true), (6, true), (7, true), (8, true), (9, true), (10, true), (11, true), (12, true), (13, true), (14, true), (15, true), (16, false)] (by kernel_rfl) (by kernel_rfl) (by kernel_rfl) hS ?_
    iterate 16 (refine J0d rfl (by kernel_rfl) (fun K hK => ?_); go_simp; refine hK _ _ ?_; clear hK K)
    refine J0v rfl (by kernel_rfl) (by kernel_rfl) (fun K hK => ?_)
    go_simp
    refine hK _ _ ?_;clear hK K j0 j1 k1 y1 hne hS;refine NoPanic.normal ?_;have h8 := (H7.out.1.setReg Hb6.out.2 a wq).kept Hb6.out.2 (J22 _ none) (fun b hb => by cases hb);have b8 : Below G w (w7.setCell ⟨zrg, a.toNat, none⟩ (.int .i64 wq)).drew := J0u (Below.setCell H7.out.2 (by have := (H7.out.1.rest.lab zrg (fun e => by have := H7.out.1.rest.cur.lr; dsimp only at this e; omega)).1; dsimp only; omega) _);obtain ⟨W8, hW8⟩ : ∃ W8, (w7.setCell ⟨zrg, a.toNat, none⟩ (.int .i64 wq)).drew = W8 := ⟨_, rfl⟩;dsimp only at h8;rw [hW8] at h8 b8 |-;clear hW8 ya yf HS H7;obtain ⟨pq, hpq⟩ : ∃ x, s6.pl.past q = x := ⟨_, rfl⟩;have g2 := (h8.cells 2 (by omega)).1;replace g2 : W8.cell? ⟨G, 2, none⟩ = some (.slice (some ⟨zpg, 0, none⟩) N zpc) := g2;have yp := (h8.rest.cur.past q hq).1;have hrow := h8.rest.cur.rows q hq;obtain ⟨pv, pcap, hPq⟩ := J27 hrow;rw [hPq] at yp hrow;replace hrow : W8.ownsRow (G + 1) 2 1 (.slice pv (s6.pl.past q).length pcap) (s6.pl.past q).length (ints (s6.pl.past q)) := hrow;replace yp : W8.cell? ⟨zpg, q, none⟩ = some (.slice pv (s6.pl.past q).length pcap) := yp;have Hlen : Hid (pq.length <= 99999) := by rw [<- hpq]; exact Hpl.out q hq
    rw [hpq] at hrow yp;rw [hpq, Hwq.out] at Hwd;have H8 := J03 (And.intro h8 (And.intro b8 hrow));clear h8 b8 hPq hpq;by_cases hcm : 0 < ch /\ ch <= (pq.length : Int)
    ·rw [if_pos hcm] at Hwd
     have hc1 := hcm.1;have hc2 := hcm.2;obtain ⟨m, hm⟩ : ∃ m : Nat, (pq.length : Int) - ch = m := ⟨((pq.length : Int) - ch).toNat, by omega⟩;have hml : m < pq.length := by omega
     have hms : wrap64 ((pq.length : Int) - ch) = (m : Int) := by rw [hm]; have := Hlen.out; unfold wrap64; omega
     obtain ⟨g3, hpv, _, hcs⟩ := Jbv hrow (by omega);subst hpv;obtain ⟨was, hwas⟩ : ∃ v, pq[m]? = some v := ⟨_, List.getElem?_eq_getElem hml⟩;have cw := hcs m (.int .i64 was) (by simp [ints, hwas])
     have Hwas : Hid (pq.getD (pq.length - ch.toNat) 0 = was) := by
      rw [show pq.length - ch.toNat = m by omega, List.getD_eq_getElem?_getD, hwas]; rfl
     rw [Hwas.out] at Hwd;have hm0 : (0 : Int) <= (m : Int) := by omega
     have hm1 : (m : Int) < (pq.length : Int) := by omega
     have HL := J03 (J8j W8 G N y _ _ (fun j hj => by have := Hpl.out j hj; show (s6.pl.past j).length <= 100000; omega) ⟨Hb6.out.2, _, H8.out.1⟩);clear hrow hcs hwas hm hcm;go_wp2_with (fail)
     refine HL.out.mono ?_;rintro e w9 ⟨rfl, r9, b9⟩;clear g2 yp cw HL;obtain ⟨_, ⟨zsv', zsc', z0', z1', z2', z3', ⟨yrg, yrc, ywg, ywa, ywc, ypg, ypa, ypc, yP⟩, yb, ylab⟩, h9⟩ := r9.out;obtain ⟨S9, HS9⟩ := J4n w9;have j0 := J0x HS9 (ad := ⟨G, 0, none⟩) (v := .slice (some ⟨yrg, 0, none⟩) 10 yrc) (h9.cells 0 (by omega)).1;have bx9 := h9.rest.box _ List.mem_cons_self;have k1 := J0x HS9 (J06 bx9.2.2 1 (.int .i64 a) (by simp));have ya := (h9.rest.cur.regs a.toNat (by omega)).1;have yf := (h9.rest.cur.regs a.toNat (by omega)).2;dsimp only at ya yf k1;have hne := s_ne HS9;have hS := J4m HS9;have H9 := J03 (And.intro h9 (Below.trans H8.out.2.1 b9));clear h9 b9 r9 bx9;go_wp2_with (fail)
     refine J0i (S := S9) [(0, true), (1, true), (2, true), (3, true), (4, true), (5, true), (6, true), (7, true), (8, true), (9, false)] (by kernel_rfl) (by kernel_rfl) (by kernel_rfl) hS ?_
     iterate 9 (refine J0d rfl (by kernel_rfl) (fun K hK => ?_); go_simp; refine hK _ _ ?_; clear hK K)
     refine J0v rfl (by kernel_rfl) (by kernel_rfl) (fun K hK => ?_)
     go_simp
     refine hK _ _ ?_;clear hK K j0 k1 hne hS;refine NoPanic.normal ?_;go_wp2;go_end0;obtain ⟨h9, b9⟩ := H9.out;refine Hwd.out _ (J0u (Below.setCell b9 ?_ _)) ⟨Hb6.out.2, ⟨_, (h9.setReg Hb6.out.2 a was).kept Hb6.out.2 (J22 _ none) (fun b hb => by cases hb)⟩⟩;have := (h9.rest.lab yrg (fun e => by have := h9.rest.cur.lr; dsimp only at this e; omega)).1;dsimp only;omega
    ·rw [if_neg hcm] at Hwd
     by_cases hc0 : 0 < ch
     ·have hc1 : ¬ ch <= (pq.length : Int) := fun h => hcm ⟨hc0, h⟩
      go_wp2;go_end0;exact Hwd.out _ H8.out.2.1 ⟨Hb6.out.2, ⟨_, H8.out.1⟩⟩
     ·go_wp2
      go_end0;exact Hwd.out _ H8.out.2.1 ⟨Hb6.out.2, ⟨_, H8.out.1⟩⟩
   ·subst hp1
    have Hw : Hid (∀ s' : Sp, wordS p s' ⟨op, a, b, c, n_⟩ (q : Int) = { s' with pl := { s'.pl with past := setF s'.pl.past q (s'.pl.past q ++ [s'.pl.wd q]), wd := setF s'.pl.wd q (s'.pl.r a.toNat) } }) := fun s' => by unfold wordS; rw [if_neg Hin.out, Hpu.out.1, if_pos rfl, Int.toNat_natCast]
    rw [Hw.out] at Hwd;go_wp2_with (fail)
    rw [HW6.out];clear c3 f3 e0 e1 e2 x1 ya yf;obtain ⟨h6, hN, hb6⟩ := Hz.out;have hwa := h6.rest.cur.wa (by omega);have hpa := h6.rest.cur.pa (by omega);dsimp only at hwa hpa;subst hwa hpa;have e1 := (h6.cells 1 (by omega)).1;have e2 := (h6.cells 2 (by omega)).1;dsimp only [gV, PV.words, PV.past] at e1 e2;have yw := (h6.rest.cur.words q hq).1;obtain ⟨yp, yp'⟩ := h6.rest.cur.past q hq;have hrow := h6.rest.cur.rows q hq;obtain ⟨pv, pcap, hPq⟩ := J27 hrow;rw [hPq] at yp hrow;dsimp only [Sp.go, Sp.see] at yw yp yp' hrow hPq;obtain ⟨wq, hwq⟩ : ∃ x, s.pl.wd q = x := ⟨_, rfl⟩;obtain ⟨pq, hpq⟩ : ∃ x, s.pl.past q = x := ⟨_, rfl⟩;rw [hwq] at yw;rw [hpq] at yp hrow hPq;have Hpl : Hid (pq.length <= 99999) := by rw [<- hpq]; exact Hp.out.2.2.2.1 q hq
    obtain ⟨i0, hi, hz0, hz1, hz2⟩ := info_parts info2;have Hi : Hid (Tryz.prog.info? 2 = some i0 /\ i0.zero = some (.int .i64 0) /\ i0.size = 1 /\ i0.bytes = 8) := ⟨hi, hz0, hz1, hz2⟩;obtain ⟨S, HS⟩ : ∃ S : World -> Prop, Hid (∀ w', S w' ↔ (w'.cell? ⟨G, 2, none⟩ = some (.slice (some ⟨pg, 0, none⟩) N pc) /\ w'.cell? ⟨pg, q, none⟩ = some (.slice pv pq.length pcap) /\ w'.cell? ⟨G, 1, none⟩ = some (.slice (some ⟨wg, 0, none⟩) N wc) /\ w'.cell? ⟨wg, q, none⟩ = some (.int .i64 wq))) := ⟨_, fun _ => Iff.rfl⟩;have j1 : ∀ i : { w' // S w' }, i.val.cell? ⟨G, 2, none⟩ = some (.slice (some ⟨pg, 0, none⟩) N pc) := fun i => ((HS.out _).1 i.property).1
    have j2 : ∀ i : { w' // S w' }, i.val.cell? ⟨pg, q, none⟩ = some (.slice pv pq.length pcap) := fun i => ((HS.out _).1 i.property).2.1
    have j3 : ∀ i : { w' // S w' }, i.val.cell? ⟨G, 1, none⟩ = some (.slice (some ⟨wg, 0, none⟩) N wc) := fun i => ((HS.out _).1 i.property).2.2.1
    have j4 : ∀ i : { w' // S w' }, i.val.cell? ⟨wg, q, none⟩ = some (.int .i64 wq) := fun i => ((HS.out _).1 i.property).2.2.2
    have hS : S W6.drew := (HS.out _).2 ⟨e2, yp, e1, yw⟩;have hne : Nonempty { w' // S w' } := ⟨⟨_, hS⟩⟩;have HX := J03 (And.intro e2 (And.intro yp (And.intro e1 (And.intro yw (And.intro hrow (And.intro yp' (And.intro hPq (And.intro hwq hpq))))))));clear e1 e2 yw yp yp' hrow hPq hwq hpq h6 hb6 hi hz0 hz1 hz2;refine J0i (S := S) [(0, true), (1, true), (2, true), (3, true), (4, true), (5, true), (6, true), (7, true), (8, true), (9, true), (10, true), (11, true), (12, true), (13, true), (14, true), (15, true), (16, true), (17, true), (18, true), (19, true), (20, true), (21, true), (22, false), (23, false), (24, true), (25, false)] (by kernel_rfl) (by kernel_rfl) (by kernel_rfl) hS ?_
    iterate 22 (refine J0d rfl (by kernel_rfl) (fun K hK => ?_); go_simp; refine hK _ _ ?_; clear hK K)
    clear j1 j2 j3 j4 hS
    have KW : Hid (∀ o, More W6 (W6.alloc o).drew) := fun o => by
     have : More W6 (W6.alloc o) := Below.alloc (Below.refl _ _) (Nat.le_refl _) _;exact this.drew
    refine J0y rfl (by kernel_rfl) (fun K hK => ?_)
    go_simp
    refine hK _ _ ((HS.out _).2 ?_) ?_
    ·obtain ⟨x1, x2, x3, x4, _⟩ := HX.out
     exact ⟨(KW.out _).cell x1, (KW.out _).cell x2, (KW.out _).cell x3, (KW.out _).cell x4⟩
    clear hK K;obtain ⟨W7, hW7⟩ : ∃ W7, (W6.alloc (.cells #[.int .i64 wq] 2)).drew = W7 := ⟨_, rfl⟩;have mW7 : More W6 W7 := by rw [<- hW7]; exact KW.out _
    have HM7 := J03 (And.intro hW7 mW7)
    have Hown7 : Hid (W7.ownsRow (G + 1) 2 1 (.slice pv pq.length pcap) pq.length (ints pq)) := by
     obtain ⟨_, _, _, _, hrow, _⟩ := HX.out;refine World.ownsRow.kept hrow (mW7.grow none) ?_;cases (Value.slice pv pq.length pcap).ownBlock with
     | none => left; rfl
     | some b => right; simp
    have Hsz : Hid (G + 1 <= W6.heap.size /\ W7.heap.size = W6.heap.size + 1) := ⟨Hz.out.1.rest.lt, by rw [<- hW7]; simp⟩
    have Hnew : Hid (∀ j u, [Value.int .i64 wq][j]? = some u -> W7.cell? ((⟨W6.heap.size, 0, none⟩ : Addr).add j) = some u) := by
     rw [<- hW7];exact cell_one_new W6 (.int .i64 wq) 2
    rw [hW7];clear hW7 mW7 KW;refine J0y rfl (by kernel_rfl) (fun K hK => ?_);refine wp_append_lies _ (.tmp 108) (.tmp 117) 65 rfl (G + 1) 2 i0 (.int .i64 0) 1 8 Tryz.underlying65 Hi.out.1 Hi.out.2.1 Hi.out.2.2.1 Hi.out.2.2.2 rfl (by decide) (.slice pv pq.length pcap) pq.length (ints pq) rfl Hown7.out ⟨W6.heap.size, 0, none⟩ 1 1 [.int .i64 wq] rfl rfl Hnew.out (fun x hx => by simp at hx; subst hx; rfl) (by decide) (by have := Hpl.out; unfold maxLen; omega) (by have := Hpl.out; omega) (by have := Hsz.out; omega) W7.heap.size rfl ?_;intro g2 cap2 w8 own8 gr8 at8 lt8
    have hrw : ∀ b, (Value.slice pv pq.length pcap).ownBlock = some b -> lab b = 10 + q := fun b hb => by
     have := Hz.out.1.rest.cur.lrow q Hq.out b (by obtain ⟨_, _, _, _, _, _, hPq, _⟩ := HX.out; dsimp only; rw [hPq]; exact hb);dsimp only at this;omega
    have lbl : lab G = 0 /\ lab wg = 2 /\ lab pg = 3 := ⟨(Hz.out.1.rest.own G rfl).1, Hz.out.1.rest.cur.lw (by omega), Hz.out.1.rest.cur.lp (by omega)⟩;have kp8 : ∀ b, lab b < 10 -> some b ≠ (Value.slice pv pq.length pcap).ownBlock := fun b hb e => by have := hrw b e.symm; omega
    have H8 := J03 (And.intro own8 (And.intro gr8 at8));have pw := (Wr.kept (HM7.out.2.grow none) ⟨HX.out.2.1, HX.out.2.2.2.2.2.1⟩ (by simp)).kept gr8 (kp8 pg (by omega));have pc8 := pw.1;have pf8 := pw.2;refine hK _ _ ((HS.out _).2 ?_) ?_
    ·obtain ⟨x1, x2, x3, x4, _⟩ := HX.out
     exact ⟨gr8.cell (HM7.out.2.cell x1) (kp8 _ (by dsimp only; omega)), pc8, gr8.cell (HM7.out.2.cell x3) (kp8 _ (by dsimp only; omega)), gr8.cell (HM7.out.2.cell x4) (kp8 _ (by dsimp only; omega))⟩
    clear hK K own8 gr8 at8 lt8 hrw lbl kp8 pw;refine J0d rfl (by kernel_rfl) (fun K hK => ?_); go_simp; refine hK _ _ ?_; clear hK K;refine J0v rfl (by kernel_rfl) (by kernel_rfl) (fun K hK => ?_)
    go_simp
    refine hK _ _ ?_;clear hK K hne;refine NoPanic.normal ?_
    obtain ⟨z9, h9, hrg9, hwg9⟩ : ∃ z', RS (w8.setCell ⟨pg, q, none⟩ (.slice (some ⟨g2, 0, none⟩) (pq.length + 1) cap2)) G N y _ _ z' /\ z'.a.rg = rg /\ z'.a.wg = wg := by
     obtain ⟨h6, hN, _⟩ := Hz.out;obtain ⟨own8, gr8, at8⟩ := H8.out;obtain ⟨_, _, _, _, _, _, hPq, hwq, hpq⟩ := HX.out;have h7 := h6.kept hN (HM7.out.2.grow none) (fun b hb => by cases hb);refine h7.pushed hN q Hq.out wq _ (show W7.grownBy w8 (PP q).ownBlock by rw [hPq]; exact gr8) (show w8.ownsRow (G + 1) 2 1 _ ((s.pl.past q).length + 1) (ints (s.pl.past q) ++ [.int .i64 wq]) by rw [hpq]; exact own8) (fun b hb => ?_);show (PP q).ownBlock = some b \/ W7.heap.size <= b;rw [hPq];have hb' : g2 = b := by simpa [Value.ownBlock] using hb
     subst hb';rcases at8 with h | h
     ·exact .inl h
     ·right; omega
    obtain ⟨W9, hW9⟩ : ∃ W9, w8.setCell ⟨pg, q, none⟩ (.slice (some ⟨g2, 0, none⟩) (pq.length + 1) cap2) = W9 := ⟨_, rfl⟩;rw [hW9] at h9 |-
    have b9 : Below G w W9 := by
     obtain ⟨own8, gr8, at8⟩ := H8.out;rw [<- hW9];refine Below.setCell (Below.grown (J0l Hz.out.2.2 (by have := Hsz.out; omega) HM7.out.2) gr8 (by have := Hsz.out; omega) (fun b hb => ?_)) ?_ _
     ·have := (World.ownsRow.lt Hown7.out b hb).1; omega
     ·have := (Hz.out.1.rest.lab pg (fun e => by have := Hz.out.1.rest.cur.lp (by omega); dsimp only at this e; omega)).1
      dsimp only;omega
    have v0 := (h9.cells 0 (by omega)).1;have v1 := (h9.cells 1 (by omega)).1;obtain ⟨z9sv, z9sc, z90, z91, z92, z93, ⟨zrg, zrc, zwg, zwa, zwc, zpg, zpa, zpc, zP⟩, z9b, z9lab⟩ := z9;dsimp only at hrg9 hwg9;subst hrg9 hwg9;have hwa9 := h9.rest.cur.wa (by omega);dsimp only at hwa9;subst hwa9;replace v0 : W9.cell? ⟨G, 0, none⟩ = some (.slice (some ⟨zrg, 0, none⟩) 10 zrc) := v0;replace v1 : W9.cell? ⟨G, 1, none⟩ = some (.slice (some ⟨zwg, 0, none⟩) N zwc) := v1;have x1 := J06 (h9.rest.box _ List.mem_cons_self).2.2 1 (.int .i64 a) (by simp);dsimp only at x1;have ya := (h9.rest.cur.regs a.toNat (by omega)).1;replace ya : W9.cell? ⟨zrg, a.toNat, none⟩ = some (.int .i64 ra_) := by rw [<- Hra.out]; exact ya
    obtain ⟨yw, yf⟩ := h9.rest.cur.words q Hq.out;dsimp only at yw yf;have H9 := J03 (And.intro h9 b9);obtain ⟨S9, HS9⟩ := J4n W9;have j0 := J0x HS9 v0;have j1 := J0x HS9 v1;have k1 := J0x HS9 x1;have y1 := J0x HS9 ya;have hne := s_ne HS9;have hS := J4m HS9;clear h9 b9 hW9 pc8 pf8 HS;go_wp2_with (fail)
    refine J0i (S := S9) [(0, true), (1, true), (2, true), (3, true), (4, true), (5, true), (6, true), (7, true), (8, true), (9, true), (10, true), (11, true), (12, true), (13, true), (14, true), (15, true), (16, false)] (by kernel_rfl) (by kernel_rfl) (by kernel_rfl) hS ?_
    iterate 16 (refine J0d rfl (by kernel_rfl) (fun K hK => ?_); go_simp; refine hK _ _ ?_; clear hK K)
    refine J0v rfl (by kernel_rfl) (by kernel_rfl) (fun K hK => ?_)
    go_simp
    refine hK _ _ ?_;clear hK K j0 j1 k1 y1 hne hS;refine NoPanic.normal ?_;go_wp2;refine bodyPost_ret (results_none (by kernel_rfl) _ _ _) rfl ?_;obtain ⟨h9, b9⟩ := H9.out;have hN := Hz.out.2.1;have h10 := (h9.kept hN (J22 _ none) (fun b hb => by cases hb)).setWord hN q Hq.out ra_;rw [<- Hra.out, <- HX.out.2.2.2.2.2.2.2.1] at h10;rw [<- Hra.out];refine Hwd.out _ (Below.setCell (J0u b9) ?_ _) ⟨hN, ⟨_, h10⟩⟩;have := (h9.rest.lab zwg (fun e => by have := h9.rest.cur.lw (by omega); dsimp only at this e; omega)).1;dsimp only;omega
theorem J9j (op a b c n : Int) (w : World) (G N : Nat) (y : Ys) (s : Sp) (mo : List (Nat × Obj)) (h : R4 w G N y s mo) (hat : s.pl.at_ <= 100000) (hop : op = 7) (n0 : 0 <= n) :
  Calls Tryz.prog 25 #[.pointer (some ⟨G, 0, none⟩), .agg #[.int .i64 op, .int .i64 a, .int .i64 b, .int .i64 c, .int .i64 n]] w fun e w' => e = .returned (.bool false) /\ Below G w w' /\ R4 w' G N y (s.go n.toNat) mo := by
 suffices H0 : ∀ P : Ending -> World -> Prop, (∀ e w', (e = .returned (.bool false) /\ Below G w w' /\ R4 w' G N y (s.go n.toNat) mo) -> P e w') -> Calls Tryz.prog 25 #[.pointer (some ⟨G, 0, none⟩), .agg #[.int .i64 op, .int .i64 a, .int .i64 b, .int .i64 c, .int .i64 n]] w P from H0 _ (fun _ _ h => h)
 intro P hP;have HP := J03 hP;have hG := h.lt;have h1 := h.beside (.cells #[.int .i64 op, .int .i64 a, .int .i64 b, .int .i64 c, .int .i64 n] 53);have m1 : More w (w.alloc (.cells #[.int .i64 op, .int .i64 a, .int .i64 b, .int .i64 c, .int .i64 n] 53)) := (More.refl _).alloc _ _;have H1 := J03 (And.intro h1 (And.intro (J0l (Below.refl G w) (Nat.le_of_lt hG) m1) m1));have HU := J03 (J43 op a b c n (w.alloc (.cells #[.int .i64 op, .int .i64 a, .int .i64 b, .int .i64 c, .int .i64 n] 53)));have hwr := J2b;have hatw : wrap64 ((s.pl.at_ : Int) + 1) = (s.pl.at_ : Int) + 1 := by unfold wrap64; omega
 have n3' : ¬ G = w.heap.size := by omega
 have n3 : ¬ w.heap.size = G := by omega
 obtain ⟨pu, hpu⟩ : ∃ x, putI ⟨op, a, b, c, n⟩ = x := ⟨_, rfl⟩;rw [hpu] at HU;have Hpu := J03 hpu;clear h hP h1 m1 hpu;subst hop;go_enter Tryz.func25, Tryz.ntmps25;go_wp2_with (fail)
 refine HU.out.mono ?_;rintro e w2 ⟨rfl, m2⟩;have H2 := J03 (And.intro (H1.out.1.more m2) (J0l H1.out.2.1 (Nat.le_of_lt H1.out.1.lt) m2));have bx := H2.out.1.left (List.mem_cons_self);have k0 := J06 bx 0 (.int .i64 7) (by simp);have k1 := J06 bx 1 (.int .i64 a) (by simp);have k2 := J06 bx 2 (.int .i64 b) (by simp);have k3 := J06 bx 3 (.int .i64 c) (by simp);have k4 := J06 bx 4 (.int .i64 n) (by simp);dsimp only at k0 k1 k2 k3 k4;clear HU H1 m2 bx;obtain ⟨c3, f3⟩ := H2.out.1.at_;go_wp2;refine HP.out _ _ ⟨rfl, J0a H2.out.2 _ _, (H2.out.1.setAt n.toNat n (by omega)).fewer mo (fun q hq => List.mem_cons_of_mem _ hq)⟩

theorem J9i (op a b c n : Int) (w : World) (G N : Nat) (y : Ys) (s : Sp) (mo : List (Nat × Obj)) (h : R4 w G N y s mo) (hat : s.pl.at_ <= 100000) (hop : op = 9) (ha : s.ahead = false) (a0 : 0 <= a) (a1 : a < 10) :
  Calls Tryz.prog 25 #[.pointer (some ⟨G, 0, none⟩), .agg #[.int .i64 op, .int .i64 a, .int .i64 b, .int .i64 c, .int .i64 n]] w fun e w' => e = .returned (.bool false) /\ Below G w w' /\ R4 w' G N { y with e := 1, v := s.pl.r a.toNat } s mo := by
 suffices H0 : ∀ P : Ending -> World -> Prop, (∀ e w', (e = .returned (.bool false) /\ Below G w w' /\ R4 w' G N { y with e := 1, v := s.pl.r a.toNat } s mo) -> P e w') -> Calls Tryz.prog 25 #[.pointer (some ⟨G, 0, none⟩), .agg #[.int .i64 op, .int .i64 a, .int .i64 b, .int .i64 c, .int .i64 n]] w P from H0 _ (fun _ _ h => h)
 intro P hP;have HP := J03 hP;have hG := h.lt;have h1 := h.beside (.cells #[.int .i64 op, .int .i64 a, .int .i64 b, .int .i64 c, .int .i64 n] 53);have m1 : More w (w.alloc (.cells #[.int .i64 op, .int .i64 a, .int .i64 b, .int .i64 c, .int .i64 n] 53)) := (More.refl _).alloc _ _;have H1 := J03 (And.intro h1 (And.intro (J0l (Below.refl G w) (Nat.le_of_lt hG) m1) m1));have HU := J03 (J43 op a b c n (w.alloc (.cells #[.int .i64 op, .int .i64 a, .int .i64 b, .int .i64 c, .int .i64 n] 53)));have hwr := J2b;have hatw : wrap64 ((s.pl.at_ : Int) + 1) = (s.pl.at_ : Int) + 1 := by unfold wrap64; omega
 have n3' : ¬ G = w.heap.size := by omega
 have n3 : ¬ w.heap.size = G := by omega
 obtain ⟨pu, hpu⟩ : ∃ x, putI ⟨op, a, b, c, n⟩ = x := ⟨_, rfl⟩;rw [hpu] at HU;have Hpu := J03 hpu;clear h hP h1 m1 hpu;subst hop;go_enter Tryz.func25, Tryz.ntmps25;go_wp2_with (fail)
 refine HU.out.mono ?_;rintro e w2 ⟨rfl, m2⟩;have H2 := J03 (And.intro (H1.out.1.more m2) (J0l H1.out.2.1 (Nat.le_of_lt H1.out.1.lt) m2));have bx := H2.out.1.left (List.mem_cons_self);have k0 := J06 bx 0 (.int .i64 9) (by simp);have k1 := J06 bx 1 (.int .i64 a) (by simp);have k2 := J06 bx 2 (.int .i64 b) (by simp);have k3 := J06 bx 3 (.int .i64 c) (by simp);have k4 := J06 bx 4 (.int .i64 n) (by simp);dsimp only at k0 k1 k2 k3 k4;clear HU H1 m2 bx;obtain ⟨c6, f6⟩ := H2.out.1.e;obtain ⟨c7, f7⟩ := H2.out.1.v;have c12 := H2.out.1.ahead.1;rw [ha] at c12;obtain ⟨g, gc, w0, hr, hGg⟩ := H2.out.1.regs;have d0 := w0.1;have ya := (hr a.toNat (by omega)).1;obtain ⟨x, hx⟩ : ∃ x, s.pl.r a.toNat = x := ⟨_, rfl⟩;rw [hx] at ya;have Hx := J03 hx;have n5 : ¬ G = g := by omega
 obtain ⟨S, HS⟩ : ∃ S : World -> Prop, Hid (∀ w', S w' ↔ (w'.cell? ⟨G, 0, none⟩ = some (.slice (some ⟨g, 0, none⟩) 10 gc) /\ w'.cell? ⟨w.heap.size, 1, none⟩ = some (.int .i64 a) /\ w'.cell? ⟨g, a.toNat, none⟩ = some (.int .i64 x))) := ⟨_, fun _ => Iff.rfl⟩;have j0 : ∀ i : { w' // S w' }, i.val.cell? ⟨G, 0, none⟩ = some (.slice (some ⟨g, 0, none⟩) 10 gc) := fun i => ((HS.out _).1 i.property).1
 have j1 : ∀ i : { w' // S w' }, i.val.cell? ⟨w.heap.size, 1, none⟩ = some (.int .i64 a) := fun i => ((HS.out _).1 i.property).2.1
 have j2 : ∀ i : { w' // S w' }, i.val.cell? ⟨g, a.toNat, none⟩ = some (.int .i64 x) := fun i => ((HS.out _).1 i.property).2.2
 have hS : S (w2.setCell ⟨G, 6, none⟩ (.int .i64 1)).drew := (HS.out _).2 ⟨by go_simp, by go_simp, by go_simp⟩;have hne : Nonempty { w' // S w' } := ⟨⟨_, hS⟩⟩;clear w0 hr hx;go_wp2_with (fail)
 refine J01 (S := S) [(0, true), (1, true), (2, true), (3, true), (4, true), (5, true), (6, true), (7, true), (8, true), (9, true), (10, true), (11, true), (12, true), (13, false)] (by kernel_rfl) (by kernel_rfl) (by kernel_rfl) hS ?_
 iterate 13 (refine J00 rfl (by kernel_rfl) (fun K hK => ?_); go_simp; refine hK _ _ ?_; clear hK K)
 refine J02 rfl (by kernel_rfl) (fun K hK => ?_); go_simp;refine hK _ _ ((HS.out _).2 ⟨by go_simp, by go_simp, by go_simp⟩) ?_;clear hK K j0 j1 j2 hne hS;refine J04 ?_;go_wp2;refine HP.out _ _ ⟨rfl, J0u (J0a (J0a H2.out.2 _ _) _ _), ?_⟩;rw [Hx.out];exact ((((H2.out.1.setE 1).setV x).drew)).fewer mo (fun q hq => List.mem_cons_of_mem _ hq)

theorem J8l (op a b c n : Int) (w : World) (G N : Nat) (y : Ys) (s : Sp) (mo : List (Nat × Obj)) (h : R4 w G N y s mo) (hat : s.pl.at_ <= 100000) (hop : op = 9) (ha : s.ahead = true) :
  Calls Tryz.prog 25 #[.pointer (some ⟨G, 0, none⟩), .agg #[.int .i64 op, .int .i64 a, .int .i64 b, .int .i64 c, .int .i64 n]] w fun e w' => e = .returned (.bool true) /\ Below G w w' /\ R4 w' G N y (s.go (s.pl.at_ + 1)) mo := by
 suffices H0 : ∀ P : Ending -> World -> Prop, (∀ e w', (e = .returned (.bool true) /\ Below G w w' /\ R4 w' G N y (s.go (s.pl.at_ + 1)) mo) -> P e w') -> Calls Tryz.prog 25 #[.pointer (some ⟨G, 0, none⟩), .agg #[.int .i64 op, .int .i64 a, .int .i64 b, .int .i64 c, .int .i64 n]] w P from H0 _ (fun _ _ h => h)
 intro P hP;have HP := J03 hP;have hG := h.lt;have h1 := h.beside (.cells #[.int .i64 op, .int .i64 a, .int .i64 b, .int .i64 c, .int .i64 n] 53);have m1 : More w (w.alloc (.cells #[.int .i64 op, .int .i64 a, .int .i64 b, .int .i64 c, .int .i64 n] 53)) := (More.refl _).alloc _ _;have H1 := J03 (And.intro h1 (And.intro (J0l (Below.refl G w) (Nat.le_of_lt hG) m1) m1));have HU := J03 (J43 op a b c n (w.alloc (.cells #[.int .i64 op, .int .i64 a, .int .i64 b, .int .i64 c, .int .i64 n] 53)));have hwr := J2b;have hatw : wrap64 ((s.pl.at_ : Int) + 1) = (s.pl.at_ : Int) + 1 := by unfold wrap64; omega
 have n3' : ¬ G = w.heap.size := by omega
 have n3 : ¬ w.heap.size = G := by omega
 obtain ⟨pu, hpu⟩ : ∃ x, putI ⟨op, a, b, c, n⟩ = x := ⟨_, rfl⟩;rw [hpu] at HU;have Hpu := J03 hpu;clear h hP h1 m1 hpu;subst hop;go_enter Tryz.func25, Tryz.ntmps25;go_wp2_with (fail)
 refine HU.out.mono ?_;rintro e w2 ⟨rfl, m2⟩;have H2 := J03 (And.intro (H1.out.1.more m2) (J0l H1.out.2.1 (Nat.le_of_lt H1.out.1.lt) m2));have bx := H2.out.1.left (List.mem_cons_self);have k0 := J06 bx 0 (.int .i64 9) (by simp);have k1 := J06 bx 1 (.int .i64 a) (by simp);have k2 := J06 bx 2 (.int .i64 b) (by simp);have k3 := J06 bx 3 (.int .i64 c) (by simp);have k4 := J06 bx 4 (.int .i64 n) (by simp);dsimp only at k0 k1 k2 k3 k4;clear HU H1 m2 bx;obtain ⟨c3, f3⟩ := H2.out.1.at_;have c12 := H2.out.1.ahead.1;rw [ha] at c12;go_wp2;refine HP.out _ _ ⟨rfl, J0a H2.out.2 _ _, (H2.out.1.setAt (s.pl.at_ + 1) ((s.pl.at_ : Int) + 1) (by push_cast; rfl)).fewer mo (fun q hq => List.mem_cons_of_mem _ hq)⟩

theorem J7j (op a b c n : Int) (w : World) (G N : Nat) (y : Ys) (s : Sp) (mo : List (Nat × Obj)) (h : R4 w G N y s mo) (hat : s.pl.at_ <= 100000) (hop : op = 12)  :
  Calls Tryz.prog 25 #[.pointer (some ⟨G, 0, none⟩), .agg #[.int .i64 op, .int .i64 a, .int .i64 b, .int .i64 c, .int .i64 n]] w fun e w' => e = .returned (.bool true) /\ Below G w w' /\ R4 w' G N y (s.go (s.pl.at_ + 1)) mo := by
 suffices H0 : ∀ P : Ending -> World -> Prop, (∀ e w', (e = .returned (.bool true) /\ Below G w w' /\ R4 w' G N y (s.go (s.pl.at_ + 1)) mo) -> P e w') -> Calls Tryz.prog 25 #[.pointer (some ⟨G, 0, none⟩), .agg #[.int .i64 op, .int .i64 a, .int .i64 b, .int .i64 c, .int .i64 n]] w P from H0 _ (fun _ _ h => h)
 intro P hP;have HP := J03 hP;have hG := h.lt;have h1 := h.beside (.cells #[.int .i64 op, .int .i64 a, .int .i64 b, .int .i64 c, .int .i64 n] 53);have m1 : More w (w.alloc (.cells #[.int .i64 op, .int .i64 a, .int .i64 b, .int .i64 c, .int .i64 n] 53)) := (More.refl _).alloc _ _;have H1 := J03 (And.intro h1 (And.intro (J0l (Below.refl G w) (Nat.le_of_lt hG) m1) m1));have HU := J03 (J43 op a b c n (w.alloc (.cells #[.int .i64 op, .int .i64 a, .int .i64 b, .int .i64 c, .int .i64 n] 53)));have hwr := J2b;have hatw : wrap64 ((s.pl.at_ : Int) + 1) = (s.pl.at_ : Int) + 1 := by unfold wrap64; omega
 have n3' : ¬ G = w.heap.size := by omega
 have n3 : ¬ w.heap.size = G := by omega
 obtain ⟨pu, hpu⟩ : ∃ x, putI ⟨op, a, b, c, n⟩ = x := ⟨_, rfl⟩;rw [hpu] at HU;have Hpu := J03 hpu;clear h hP h1 m1 hpu;subst hop;go_enter Tryz.func25, Tryz.ntmps25;go_wp2_with (fail)
 refine HU.out.mono ?_;rintro e w2 ⟨rfl, m2⟩;have H2 := J03 (And.intro (H1.out.1.more m2) (J0l H1.out.2.1 (Nat.le_of_lt H1.out.1.lt) m2));have bx := H2.out.1.left (List.mem_cons_self);have k0 := J06 bx 0 (.int .i64 12) (by simp);have k1 := J06 bx 1 (.int .i64 a) (by simp);have k2 := J06 bx 2 (.int .i64 b) (by simp);have k3 := J06 bx 3 (.int .i64 c) (by simp);have k4 := J06 bx 4 (.int .i64 n) (by simp);dsimp only at k0 k1 k2 k3 k4;clear HU H1 m2 bx;obtain ⟨c3, f3⟩ := H2.out.1.at_;have c12 := H2.out.1.ahead.1;go_wp2;refine HP.out _ _ ⟨rfl, J0a H2.out.2 _ _, (H2.out.1.setAt (s.pl.at_ + 1) ((s.pl.at_ : Int) + 1) (by push_cast; rfl)).fewer mo (fun q hq => List.mem_cons_of_mem _ hq)⟩

theorem J7i (op a b c n : Int) (w : World) (G N : Nat) (y : Ys) (s : Sp) (mo : List (Nat × Obj)) (h : R4 w G N y s mo) (hat : s.pl.at_ <= 100000) (hop : op = 8) (n0 : 0 <= n) (hr64 : ∀ j, j < 10 -> B64 (s.pl.r j)) (hpast : ∀ j, j < N -> (s.pl.past j).length <= 99999) (a0 : 0 <= a) (a1 : a < 10) (b0 : 0 <= b) (b1 : b < 10) (hh : J1x c (s.pl.r a.toNat) (s.pl.r b.toNat) = true) :
  Calls Tryz.prog 25 #[.pointer (some ⟨G, 0, none⟩), .agg #[.int .i64 op, .int .i64 a, .int .i64 b, .int .i64 c, .int .i64 n]] w fun e w' => e = .returned (.bool false) /\ Below G w w' /\ R4 w' G N y (if s.choice = 0 then { s.go n.toNat with script := s.script.tail } else ({ s.go n.toNat with script := s.script.tail }.leave).go (s.pl.at_ + 1)) mo := by
 suffices H0 : ∀ P : Ending -> World -> Prop, (∀ e w', (e = .returned (.bool false) /\ Below G w w' /\ R4 w' G N y (if s.choice = 0 then { s.go n.toNat with script := s.script.tail } else ({ s.go n.toNat with script := s.script.tail }.leave).go (s.pl.at_ + 1)) mo) -> P e w') -> Calls Tryz.prog 25 #[.pointer (some ⟨G, 0, none⟩), .agg #[.int .i64 op, .int .i64 a, .int .i64 b, .int .i64 c, .int .i64 n]] w P from H0 _ (fun _ _ h => h)
 intro P hP;have HP := J03 hP;have hG := h.lt;have h1 := h.beside (.cells #[.int .i64 op, .int .i64 a, .int .i64 b, .int .i64 c, .int .i64 n] 53);have m1 : More w (w.alloc (.cells #[.int .i64 op, .int .i64 a, .int .i64 b, .int .i64 c, .int .i64 n] 53)) := (More.refl _).alloc _ _;have H1 := J03 (And.intro h1 (And.intro (J0l (Below.refl G w) (Nat.le_of_lt hG) m1) m1));have HU := J03 (J43 op a b c n (w.alloc (.cells #[.int .i64 op, .int .i64 a, .int .i64 b, .int .i64 c, .int .i64 n] 53)));have hwr := J2b;have hatw : wrap64 ((s.pl.at_ : Int) + 1) = (s.pl.at_ : Int) + 1 := by unfold wrap64; omega
 have n3' : ¬ G = w.heap.size := by omega
 have n3 : ¬ w.heap.size = G := by omega
 obtain ⟨pu, hpu⟩ : ∃ x, putI ⟨op, a, b, c, n⟩ = x := ⟨_, rfl⟩;rw [hpu] at HU;have Hpu := J03 hpu;clear h hP h1 m1 hpu;subst hop;go_enter Tryz.func25, Tryz.ntmps25;go_wp2_with (fail)
 refine HU.out.mono ?_;rintro e w2 ⟨rfl, m2⟩;have H2 := J03 (And.intro (H1.out.1.more m2) (J0l H1.out.2.1 (Nat.le_of_lt H1.out.1.lt) m2));have bx := H2.out.1.left (List.mem_cons_self);have k0 := J06 bx 0 (.int .i64 8) (by simp);have k1 := J06 bx 1 (.int .i64 a) (by simp);have k2 := J06 bx 2 (.int .i64 b) (by simp);have k3 := J06 bx 3 (.int .i64 c) (by simp);have k4 := J06 bx 4 (.int .i64 n) (by simp);dsimp only at k0 k1 k2 k3 k4;clear HU H1 m2 bx;obtain ⟨c3, f3⟩ := H2.out.1.at_;obtain ⟨g, gc, w0, hr, hGg⟩ := H2.out.1.regs;have d0 := w0.1;have ya := (hr a.toNat (by omega)).1;have yb := (hr b.toNat (by omega)).1;have h64a := hr64 a.toNat (by omega);have h64b := hr64 b.toNat (by omega);obtain ⟨xa, hxa⟩ : ∃ x, s.pl.r a.toNat = x := ⟨_, rfl⟩;obtain ⟨xb, hxb⟩ : ∃ x, s.pl.r b.toNat = x := ⟨_, rfl⟩;rw [hxa] at ya h64a hh;rw [hxb] at yb h64b hh;have HX := J03 (ref_holds c xa xb h64a.1 h64a.2 h64b.1 h64b.2 w2.drew);rw [hh] at HX;have Hp := J03 hpast;obtain ⟨S, HS⟩ := J4n w2;have j0 := J0x HS d0;have j1 := J0x HS k1;have j2 := J0x HS k2;have j3 := J0x HS k3;have j4 := J0x HS ya;have j5 := J0x HS yb;have hne := s_ne HS;have hS := J4m HS;clear w0 hr hr64 hpast hh h64a h64b hxa hxb d0 ya yb k1 k2 k3 k0;have k0 := J06 (H2.out.1.left (List.mem_cons_self)) 0 (.int .i64 8) (by simp);dsimp only at k0;go_wp2_with (fail)
 refine J01 (S := S) [(0, true), (1, true), (2, true), (3, true), (4, true), (5, true), (6, true), (7, true), (8, true), (9, true), (10, true), (11, true), (12, true), (13, true), (14, true), (15, true), (16, true), (17, true), (18, true), (19, true), (20, false)] (by kernel_rfl) (by kernel_rfl) (by kernel_rfl) hS ?_
 iterate 20 (refine J00 rfl (by kernel_rfl) (fun K hK => ?_); go_simp; refine hK _ _ ?_; clear hK K)
 refine J02 rfl (by kernel_rfl) (fun K hK => ?_); go_simp;refine HX.out.mono ?_;rintro e w3 ⟨rfl, m3⟩
 go_simp
 refine hK _ _ ((HS.out _).2 ((More.refl _).drew.trans m3)) ?_; clear hK K;refine J04 ?_;have H3 := J03 (And.intro (H2.out.1.drew.more m3) (J0l (J0u H2.out.2) (Nat.le_of_lt H2.out.1.lt) m3));clear j0 j1 j2 j3 j4 j5 hne hS HS m3 S HX H2 k0 k4 c3 f3;obtain ⟨c3, f3⟩ := H3.out.1.at_;have k4 := J06 (H3.out.1.left (List.mem_cons_self)) 4 (.int .i64 n) (by simp);dsimp only at k4;have h4 := H3.out.1.setAt n.toNat n (by omega);have HC := J03 (J70 _ G N y _ _ h4);have H4 := J03 (J0a H3.out.2 3 (.int .i64 n));rw [show (s.go n.toNat).choice = s.choice from rfl] at HC;obtain ⟨ch, hch⟩ : ∃ x, s.choice = x := ⟨_, rfl⟩;rw [hch] at HC HP;clear h4 hch;go_wp2_with (fail)
 refine HC.out.mono ?_;rintro e w5 ⟨rfl, r5, b5⟩;have H5 := J03 (And.intro r5 (Below.trans H4.out b5));clear HC r5 b5 c3 f3 k4 H3;by_cases hc0 : ch = 0
 ·subst hc0
  go_wp2;refine HP.out _ _ ⟨rfl, H5.out.2, ?_⟩;rw [if_pos (by first | trivial | rfl)];exact H5.out.1.fewer mo (fun q hq => List.mem_cons_of_mem _ hq)
 ·have HL := J03 (J8j w5 G N y _ _ (fun j hj => by have := Hp.out j hj; show (s.pl.past j).length <= 100000; omega) H5.out.1)
  go_wp2_with (fail)
  refine HL.out.mono ?_;rintro e w6 ⟨rfl, r6, b6⟩;obtain ⟨c3, f3⟩ := r6.at_;have H6 := J03 (And.intro r6 (Below.trans H5.out.2 b6));clear r6 b6 HL;go_wp2;refine HP.out _ _ ⟨rfl, J0a H6.out.2 _ _, ?_⟩;rw [if_neg hc0];exact (H6.out.1.setAt (s.pl.at_ + 1) ((s.pl.at_ : Int) + 1) (by push_cast; rfl)).fewer mo (fun q hq => List.mem_cons_of_mem _ hq)

theorem J8k (op a b c n : Int) (w : World) (G N : Nat) (y : Ys) (s : Sp) (mo : List (Nat × Obj)) (h : R4 w G N y s mo) (hat : s.pl.at_ <= 100000) (hop : op = 8) (n0 : 0 <= n) (hr64 : ∀ j, j < 10 -> B64 (s.pl.r j)) (hpast : ∀ j, j < N -> (s.pl.past j).length <= 99999) (a0 : 0 <= a) (a1 : a < 10) (b0 : 0 <= b) (b1 : b < 10) (hh : J1x c (s.pl.r a.toNat) (s.pl.r b.toNat) = false) :
  Calls Tryz.prog 25 #[.pointer (some ⟨G, 0, none⟩), .agg #[.int .i64 op, .int .i64 a, .int .i64 b, .int .i64 c, .int .i64 n]] w fun e w' => e = .returned (.bool false) /\ Below G w w' /\ R4 w' G N y (if s.choice = 0 then { s.go (s.pl.at_ + 1) with script := s.script.tail } else ({ s.go (s.pl.at_ + 1) with script := s.script.tail }.leave).go n.toNat) mo := by
 suffices H0 : ∀ P : Ending -> World -> Prop, (∀ e w', (e = .returned (.bool false) /\ Below G w w' /\ R4 w' G N y (if s.choice = 0 then { s.go (s.pl.at_ + 1) with script := s.script.tail } else ({ s.go (s.pl.at_ + 1) with script := s.script.tail }.leave).go n.toNat) mo) -> P e w') -> Calls Tryz.prog 25 #[.pointer (some ⟨G, 0, none⟩), .agg #[.int .i64 op, .int .i64 a, .int .i64 b, .int .i64 c, .int .i64 n]] w P from H0 _ (fun _ _ h => h)
 intro P hP;have HP := J03 hP;have hG := h.lt;have h1 := h.beside (.cells #[.int .i64 op, .int .i64 a, .int .i64 b, .int .i64 c, .int .i64 n] 53);have m1 : More w (w.alloc (.cells #[.int .i64 op, .int .i64 a, .int .i64 b, .int .i64 c, .int .i64 n] 53)) := (More.refl _).alloc _ _;have H1 := J03 (And.intro h1 (And.intro (J0l (Below.refl G w) (Nat.le_of_lt hG) m1) m1));have HU := J03 (J43 op a b c n (w.alloc (.cells #[.int .i64 op, .int .i64 a, .int .i64 b, .int .i64 c, .int .i64 n] 53)));have hwr := J2b;have hatw : wrap64 ((s.pl.at_ : Int) + 1) = (s.pl.at_ : Int) + 1 := by unfold wrap64; omega
 have n3' : ¬ G = w.heap.size := by omega
 have n3 : ¬ w.heap.size = G := by omega
 obtain ⟨pu, hpu⟩ : ∃ x, putI ⟨op, a, b, c, n⟩ = x := ⟨_, rfl⟩;rw [hpu] at HU;have Hpu := J03 hpu;clear h hP h1 m1 hpu;subst hop;go_enter Tryz.func25, Tryz.ntmps25;go_wp2_with (fail)
 refine HU.out.mono ?_;rintro e w2 ⟨rfl, m2⟩;have H2 := J03 (And.intro (H1.out.1.more m2) (J0l H1.out.2.1 (Nat.le_of_lt H1.out.1.lt) m2));have bx := H2.out.1.left (List.mem_cons_self);have k0 := J06 bx 0 (.int .i64 8) (by simp);have k1 := J06 bx 1 (.int .i64 a) (by simp);have k2 := J06 bx 2 (.int .i64 b) (by simp);have k3 := J06 bx 3 (.int .i64 c) (by simp);have k4 := J06 bx 4 (.int .i64 n) (by simp);dsimp only at k0 k1 k2 k3 k4;clear HU H1 m2 bx;obtain ⟨c3, f3⟩ := H2.out.1.at_;obtain ⟨g, gc, w0, hr, hGg⟩ := H2.out.1.regs;have d0 := w0.1;have ya := (hr a.toNat (by omega)).1;have yb := (hr b.toNat (by omega)).1;have h64a := hr64 a.toNat (by omega);have h64b := hr64 b.toNat (by omega);obtain ⟨xa, hxa⟩ : ∃ x, s.pl.r a.toNat = x := ⟨_, rfl⟩;obtain ⟨xb, hxb⟩ : ∃ x, s.pl.r b.toNat = x := ⟨_, rfl⟩;rw [hxa] at ya h64a hh;rw [hxb] at yb h64b hh;have HX := J03 (ref_holds c xa xb h64a.1 h64a.2 h64b.1 h64b.2 w2.drew);rw [hh] at HX;have Hp := J03 hpast;obtain ⟨S, HS⟩ := J4n w2;have j0 := J0x HS d0;have j1 := J0x HS k1;have j2 := J0x HS k2;have j3 := J0x HS k3;have j4 := J0x HS ya;have j5 := J0x HS yb;have hne := s_ne HS;have hS := J4m HS;clear w0 hr hr64 hpast hh h64a h64b hxa hxb d0 ya yb k1 k2 k3 k0;have k0 := J06 (H2.out.1.left (List.mem_cons_self)) 0 (.int .i64 8) (by simp);dsimp only at k0;go_wp2_with (fail)
 refine J01 (S := S) [(0, true), (1, true), (2, true), (3, true), (4, true), (5, true), (6, true), (7, true), (8, true), (9, true), (10, true), (11, true), (12, true), (13, true), (14, true), (15, true), (16, true), (17, true), (18, true), (19, true), (20, false)] (by kernel_rfl) (by kernel_rfl) (by kernel_rfl) hS ?_
 iterate 20 (refine J00 rfl (by kernel_rfl) (fun K hK => ?_); go_simp; refine hK _ _ ?_; clear hK K)
 refine J02 rfl (by kernel_rfl) (fun K hK => ?_); go_simp;refine HX.out.mono ?_;rintro e w3 ⟨rfl, m3⟩
 go_simp
 refine hK _ _ ((HS.out _).2 ((More.refl _).drew.trans m3)) ?_; clear hK K;refine J04 ?_;have H3 := J03 (And.intro (H2.out.1.drew.more m3) (J0l (J0u H2.out.2) (Nat.le_of_lt H2.out.1.lt) m3));clear j0 j1 j2 j3 j4 j5 hne hS HS m3 S HX H2 k0 k4 c3 f3;obtain ⟨c3, f3⟩ := H3.out.1.at_;have k4 := J06 (H3.out.1.left (List.mem_cons_self)) 4 (.int .i64 n) (by simp);dsimp only at k4;have h4 := H3.out.1.setAt (s.pl.at_ + 1) ((s.pl.at_ : Int) + 1) (by push_cast; rfl);have HC := J03 (J70 _ G N y _ _ h4);have H4 := J03 (J0a H3.out.2 3 (.int .i64 ((s.pl.at_ : Int) + 1)));rw [show (s.go (s.pl.at_ + 1)).choice = s.choice from rfl] at HC;obtain ⟨ch, hch⟩ : ∃ x, s.choice = x := ⟨_, rfl⟩;rw [hch] at HC HP;clear h4 hch;go_wp2_with (fail)
 refine HC.out.mono ?_;rintro e w5 ⟨rfl, r5, b5⟩;have H5 := J03 (And.intro r5 (Below.trans H4.out b5));clear HC r5 b5 c3 f3 k4 H3;by_cases hc0 : ch = 0
 ·subst hc0
  go_wp2;refine HP.out _ _ ⟨rfl, H5.out.2, ?_⟩;rw [if_pos (by first | trivial | rfl)];exact H5.out.1.fewer mo (fun q hq => List.mem_cons_of_mem _ hq)
 ·have HL := J03 (J8j w5 G N y _ _ (fun j hj => by have := Hp.out j hj; show (s.pl.past j).length <= 100000; omega) H5.out.1)
  go_wp2_with (fail)
  refine HL.out.mono ?_;rintro e w6 ⟨rfl, r6, b6⟩;obtain ⟨c3, f3⟩ := r6.at_;have H6 := J03 (And.intro r6 (Below.trans H5.out.2 b6));clear r6 b6 HL;go_wp2;refine HP.out _ _ ⟨rfl, J0a H6.out.2 _ _, ?_⟩;rw [if_neg hc0];exact (H6.out.1.setAt n.toNat n (by omega)).fewer mo (fun q hq => List.mem_cons_of_mem _ hq)
end
end Go.Proofs.YtlbfbjeilfcjeaaGreat
