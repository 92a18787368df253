/-
  The texts RStep2, RStepAll, RPlayAux, LastM, Script, RTail, RPlay, SOpen, LdQuiet, one behind the other, with what is used of them.
-/
import Derived.Test.YtlbfbjeilfcjeaaGreatJoined10
import Derived.Test.YtlbfbjeilfcjeaaGreatJoined9
import Derived.Test.YtlbfbjeilfcjeaaGreatJoined1
import Derived.Test.YtlbfbjeilfcjeaaGreatRows
import Derived.WalkKit
import Derived.Deep.LoopGhost
import Derived.Test.YtlbfbjeilfcjeaaGreatJoined0
import Derived.Test.YtlbfbjeilfcjeaaGreatJoined5
import Derived.Test.YtlbfbjeilfcjeaaGreatJoined4
namespace Go.Proofs.YtlbfbjeilfcjeaaGreat
set_option maxHeartbeats 4000000
section
open Go.RowKit
set_option linter.unusedSimpArgs false
set_option linter.unusedVariables false
set_option maxRecDepth 8000
theorem WordPost.fewer {p : Prg} {s : Sp} {i : Ins} {w' : World} {G N : Nat} {y : Ys} {mo l : List (Nat × Obj)} (h : WordPost p s i w' G N y mo) (hl : ∀ q ∈ l, q ∈ mo) : WordPost p s i w' G N y l := by
 unfold WordPost at *
 split
 ·rename_i hc; rw [if_pos hc] at h; exact h.fewer l hl
 ·rename_i hc; rw [if_neg hc] at h; exact h.fewer l hl

theorem Jf6 {w : World} {v : Value} {l : List Se} (h : SeenAt w v l) (h1 : l.length <= 1) : ∃ ad c, v = .slice ad l.length c /\ (0 < l.length -> ∃ ad', ad = some ad' /\ ∀ j u, (flatS l)[j]? = some u -> w.cell? (ad'.add j) = some u) := by
 obtain ⟨a, b, o, c, e, h2, h3, _⟩ := h;refine ⟨a, c, e, fun h0 => ⟨⟨b, o, none⟩, h2 h0, ?_⟩⟩;cases l with
 | nil => simp at h0
 | cons t l =>
  cases l with
  | cons t2 l => simp at h1
  | nil =>
   intro j u hu;rw [Go.WideShapes.add_plain];have q := h3 0 t rfl;simp only [Nat.zero_mul, Nat.add_zero] at q;have hj : j = 0 \/ j = 1 \/ j = 2 := by have := (List.getElem?_eq_some_iff.1 hu).1; simp [flatS] at this; omega
   rcases hj with rfl | rfl | rfl
   ·simp [flatS] at hu; subst hu; exact q.1
   ·simp [flatS] at hu; subst hu; exact q.2.1
   ·simp [flatS] at hu; subst hu; exact q.2.2
theorem Jdr (l : List Se) : ∀ u ∈ flatS l, u.oneCell' = true := by
 induction l with
 | nil => intro u hu; simp [flatS] at hu
 | cons s l ih =>
  intro u hu;simp only [flatS, List.mem_cons] at hu;rcases hu with rfl | rfl | rfl | hu
  ·rfl
  ·rfl
  ·rfl
  ·exact ih u hu

theorem J9l (op a b c n : Int) (w : World) (G N : Nat) (y : Ys) (s : Sp) (mo : List (Nat × Obj)) (h : R4 w G N y s mo) (hat : s.pl.at_ <= 100000) (p : Prg) (l : Loc) (hp : RP w G N p l y) (hl : s.seen.length <= 200000) (hpast : ∀ j, j < N -> (s.pl.past j).length <= 99999) (hop : op = 3 \/ op = 4 \/ op = 5 \/ op = 6) (a0 : 0 <= a) (a1 : a < 10) (b0 : 0 <= b) (b1 : b < 10) (c0 : 0 <= c) (c1 : c < (p.rl : Int)) :
  Calls Tryz.prog 25 #[.pointer (some ⟨G, 0, none⟩), .agg #[.int .i64 op, .int .i64 a, .int .i64 b, .int .i64 c, .int .i64 n]] w fun e w' => e = .returned (.bool false) /\ Below G w w' /\ WordPost p s ⟨op, a, b, c, n⟩ w' G N y mo := by
 suffices H0 : ∀ P : Ending -> World -> Prop, (∀ e w', (e = .returned (.bool false) /\ Below G w w' /\ WordPost p s ⟨op, a, b, c, n⟩ w' G N y mo) -> P e w') -> Calls Tryz.prog 25 #[.pointer (some ⟨G, 0, none⟩), .agg #[.int .i64 op, .int .i64 a, .int .i64 b, .int .i64 c, .int .i64 n]] w P from H0 _ (fun _ _ h => h)
 intro P hP;have HP := J03 hP;have hG := h.lt;have h1 := h.beside (.cells #[.int .i64 op, .int .i64 a, .int .i64 b, .int .i64 c, .int .i64 n] 53);have m1 : More w (w.alloc (.cells #[.int .i64 op, .int .i64 a, .int .i64 b, .int .i64 c, .int .i64 n] 53)) := (More.refl _).alloc _ _;have H1 := J03 (And.intro h1 (And.intro (J0l (Below.refl G w) (Nat.le_of_lt hG) m1) m1));have HU := J03 (J43 op a b c n (w.alloc (.cells #[.int .i64 op, .int .i64 a, .int .i64 b, .int .i64 c, .int .i64 n] 53)));have hwr := J2b;have hatw : wrap64 ((s.pl.at_ : Int) + 1) = (s.pl.at_ : Int) + 1 := by unfold wrap64; omega
 have n3' : ¬ G = w.heap.size := by omega
 have n3 : ¬ w.heap.size = G := by omega
 have hput : ∀ {x : Int}, putI ⟨op, a, b, c, n⟩ = x -> x = 0 \/ x = 1 := fun {x} e => by
  subst e;rcases hop with h | h | h | h
  ·left; exact J39 (.inl h)
  ·right; exact J4f (.inl h)
  ·left; exact J39 (.inr h)
  ·right; exact J4f (.inr h)
 obtain ⟨pu, hpu⟩ : ∃ x, putI ⟨op, a, b, c, n⟩ = x := ⟨_, rfl⟩;rw [hpu] at HU;have Hpu := J03 hpu;clear h hP h1 m1 hpu
 have hWd : ∀ w2, R4 w2 G N y s ((w.heap.size, .cells #[.int .i64 op, .int .i64 a, .int .i64 b, .int .i64 c, .int .i64 n] 53) :: mo) -> Below G w w2 -> Calls Tryz.prog 47 #[.pointer (some ⟨G, 0, none⟩), .agg #[.int .i64 op, .int .i64 a, .int .i64 b, .int .i64 c, .int .i64 n], .int .i64 pu] w2 fun e w' => e = .returned (.tuple #[]) /\ Below G w2 w' /\ WordPost p s ⟨op, a, b, c, n⟩ w' G N y ((w.heap.size, .cells #[.int .i64 op, .int .i64 a, .int .i64 b, .int .i64 c, .int .i64 n] 53) :: mo) := fun w2 h2 b2 => by
  have := Jk7 p l ⟨op, a, b, c, n⟩ w2 G N y s _ h2 (hp.below b2) hl hpast hat a0 a1 b0 b1 c0 c1 (by rw [Hpu.out]; exact hput Hpu.out);dsimp only at this;rw [Hpu.out] at this;exact this
 have HWd := J03 hWd;have hpu2 := hput Hpu.out;have hpuz : ¬ pu < 0 := by omega
 have hpuz' : 0 <= pu := by omega
 clear hWd hp hl hpast hput hpu2;have h7 : ¬ op = 7 := by omega
 have h8 : ¬ op = 8 := by omega
 have h9 : ¬ op = 9 := by omega
 have h12 : ¬ op = 12 := by omega
 have t7 : (op == 7) = false := by simp [h7]
 have t8 : (op == 8) = false := by simp [h8]
 have t9 : (op == 9) = false := by simp [h9]
 have t12 : (op == 12) = false := by simp [h12]
 clear hop h7 h8 h9 h12;go_enter Tryz.func25, Tryz.ntmps25;go_wp2_with (fail)
 refine HU.out.mono ?_;rintro e w2 ⟨rfl, m2⟩;have H2 := J03 (And.intro (H1.out.1.more m2) (J0l H1.out.2.1 (Nat.le_of_lt H1.out.1.lt) m2));have bx := H2.out.1.left (List.mem_cons_self);have k0 := J06 bx 0 (.int .i64 op) (by simp);have k1 := J06 bx 1 (.int .i64 a) (by simp);have k2 := J06 bx 2 (.int .i64 b) (by simp);have k3 := J06 bx 3 (.int .i64 c) (by simp);have k4 := J06 bx 4 (.int .i64 n) (by simp);dsimp only at k0 k1 k2 k3 k4;clear HU H1 m2 bx;go_wp2_with (fail)
 refine (HWd.out w2 H2.out.1 H2.out.2).mono ?_;rintro e w3 ⟨rfl, b3, r3⟩;have H3 := J03 (And.intro r3 (Below.trans H2.out.2 b3));clear r3 b3 k0 k1 k2 k3 k4;go_wp2;exact HP.out _ _ ⟨rfl, H3.out.2, H3.out.1.fewer (fun q hq => List.mem_cons_of_mem _ hq)⟩

def Jiv (w : World) (G N : Nat) (y : Ys) (s : Sp) : Prop := True
theorem J9k (op a b c n : Int) (w : World) (G N : Nat) (y : Ys) (s : Sp) (mo : List (Nat × Obj)) (h : R4 w G N y s mo) (hat : s.pl.at_ <= 100000) (p : Prg) (hl : s.seen.length <= 200000) (hin : InsOk p.rl p.log p.cl 10 ⟨op, a, b, c, n⟩) (hr64 : ∀ j, j < 10 -> B64 (s.pl.r j)) (h3 : ¬ op = 3) (h4 : ¬ op = 4) (h5 : ¬ op = 5) (h6 : ¬ op = 6) (h7 : ¬ op = 7) (h8 : ¬ op = 8) (h9 : ¬ op = 9) (h12 : ¬ op = 12) :
  Calls Tryz.prog 25 #[.pointer (some ⟨G, 0, none⟩), .agg #[.int .i64 op, .int .i64 a, .int .i64 b, .int .i64 c, .int .i64 n]] w fun e w' => e = .returned (.bool false) /\ Below G w w' /\ R4 w' G N y { s with pl := { at_ := s.pl.at_ + 1, r := (regsI s.pl.r ⟨op, a, b, c, n⟩).1, wd := s.pl.wd, past := s.pl.past }, seen := s.seen ++ (regsI s.pl.r ⟨op, a, b, c, n⟩).2 } mo := by
 suffices H0 : ∀ P : Ending -> World -> Prop, (∀ e w', (e = .returned (.bool false) /\ Below G w w' /\ R4 w' G N y { s with pl := { at_ := s.pl.at_ + 1, r := (regsI s.pl.r ⟨op, a, b, c, n⟩).1, wd := s.pl.wd, past := s.pl.past }, seen := s.seen ++ (regsI s.pl.r ⟨op, a, b, c, n⟩).2 } mo) -> P e w') -> Calls Tryz.prog 25 #[.pointer (some ⟨G, 0, none⟩), .agg #[.int .i64 op, .int .i64 a, .int .i64 b, .int .i64 c, .int .i64 n]] w P from H0 _ (fun _ _ h => h)
 intro P hP;have HP := J03 hP;have hG := h.lt;have h1 := h.beside (.cells #[.int .i64 op, .int .i64 a, .int .i64 b, .int .i64 c, .int .i64 n] 53);have m1 : More w (w.alloc (.cells #[.int .i64 op, .int .i64 a, .int .i64 b, .int .i64 c, .int .i64 n] 53)) := (More.refl _).alloc _ _;have H1 := J03 (And.intro h1 (And.intro (J0l (Below.refl G w) (Nat.le_of_lt hG) m1) m1));have HU := J03 (J43 op a b c n (w.alloc (.cells #[.int .i64 op, .int .i64 a, .int .i64 b, .int .i64 c, .int .i64 n] 53)));have hwr := J2b;have hatw : wrap64 ((s.pl.at_ : Int) + 1) = (s.pl.at_ : Int) + 1 := by unfold wrap64; omega
 have n3' : ¬ G = w.heap.size := by omega
 have n3 : ¬ w.heap.size = G := by omega
 obtain ⟨pu, hpu⟩ : ∃ x, putI ⟨op, a, b, c, n⟩ = x := ⟨_, rfl⟩;rw [hpu] at HU;have Hpu := J03 hpu;clear h hP h1 m1 hpu;have hi : InsOk p.rl p.log p.cl 10 ⟨op, a, b, c, n⟩ := hin
 have HG : Hid (∀ w', Jiv w' G N y s -> ∀ g gc, RegsR w' g s.pl.r -> Calls Tryz.prog 48 #[.slice (some ⟨g, 0, none⟩) 10 gc, .agg #[.int .i64 op, .int .i64 a, .int .i64 b, .int .i64 c, .int .i64 n]] w' fun e w'' =>
   ∃ sv, e = .returned sv /\ SeenAt w'' sv (regsI s.pl.r ⟨op, a, b, c, n⟩).2 /\ RegsR w'' g (regsI s.pl.r ⟨op, a, b, c, n⟩).1 /\ w'.grownBy w'' (some g)) := fun w' _ g gc hr => by
  refine (J8m ⟨op, a, b, c, n⟩ g s.pl.r w' hr hr64 hi h3 h4 h5 h6 h7 h8 h9).mono ?_;rintro e w'' ⟨sv, he, _, q1, q2, q3⟩;exact ⟨sv, he, q1, q2, q3⟩
 have Hlen : Hid ((regsI s.pl.r ⟨op, a, b, c, n⟩).2.length <= 1) := J9m _ _;obtain ⟨r2, hr2⟩ : ∃ x, (regsI s.pl.r ⟨op, a, b, c, n⟩).1 = x := ⟨_, rfl⟩;obtain ⟨l2, hl2⟩ : ∃ x, (regsI s.pl.r ⟨op, a, b, c, n⟩).2 = x := ⟨_, rfl⟩;rw [hr2, hl2] at HG HP;rw [hl2] at Hlen;have Hl := J03 hl;have hpun : pu = -1 := by rw [<- Hpu.out]; exact Jee h3 h4 h5 h6
 subst hpun;have t7 : (op == 7) = false := by simp [h7]
 have t8 : (op == 8) = false := by simp [h8]
 have t9 : (op == 9) = false := by simp [h9]
 have t12 : (op == 12) = false := by simp [h12]
 clear h7 h8 h9 h12 hin hi hr64 hr2 hl2 hl h3 h4 h5 h6;obtain ⟨i2, hi2, hz0, hz1, hz2⟩ := info_parts Jio;have Hi : Hid (Tryz.prog.info? 96 = some i2 /\ i2.zero = some (.agg #[.int .i64 0, .int .i64 0, .int .i64 0]) /\ i2.size = 3 /\ i2.bytes = 24) := ⟨hi2, hz0, hz1, hz2⟩;clear hi2 hz0 hz1 hz2;go_enter Tryz.func25, Tryz.ntmps25;go_wp2_with (fail)
 refine HU.out.mono ?_;rintro e w2 ⟨rfl, m2⟩;have H2 := J03 (And.intro (H1.out.1.more m2) (J0l H1.out.2.1 (Nat.le_of_lt H1.out.1.lt) m2));have bx := H2.out.1.left (List.mem_cons_self);have k0 := J06 bx 0 (.int .i64 op) (by simp);have k1 := J06 bx 1 (.int .i64 a) (by simp);have k2 := J06 bx 2 (.int .i64 b) (by simp);have k3 := J06 bx 3 (.int .i64 c) (by simp);have k4 := J06 bx 4 (.int .i64 n) (by simp);dsimp only at k0 k1 k2 k3 k4;clear HU H1 m2 bx;obtain ⟨hN, ⟨sv, sc', q0, q1, q2, q3, ⟨rg, rgc, wg, wa, wc, pg, pa, pc, PP⟩, bb, lab⟩, hz⟩ := H2.out.1.out;obtain ⟨S, HS⟩ : ∃ S : World -> Prop, Hid (∀ w', S w' ↔ True) := ⟨_, fun _ => Iff.rfl⟩;clear S HS;obtain ⟨S, HS⟩ : ∃ S : World -> Prop, Hid (∀ w', S w' ↔ w2.grownBy w' (some rg)) := ⟨_, fun _ => Iff.rfl⟩;have hlr : lab rg = 1 := hz.rest.cur.lr;have hGr := (hz.rest.lab rg (by dsimp only; omega)).1;have hbr : w.heap.size ≠ rg := fun e => by have := (hz.rest.box _ List.mem_cons_self).2.1; dsimp only at this; rw [e] at this; omega
 have hne0 : some w.heap.size ≠ some rg := fun e => hbr (Option.some.inj e)
 have hneG : some G ≠ some rg := fun e => by have := Option.some.inj e; omega
 have d0 : w2.cell? ⟨G, 0, none⟩ = some (.slice (some ⟨rg, 0, none⟩) 10 rgc) := (hz.cells 0 (by omega)).1;have j0 : ∀ i : { w' // S w' }, i.val.cell? ⟨G, 0, none⟩ = some (.slice (some ⟨rg, 0, none⟩) 10 rgc) := fun i => ((HS.out _).1 i.property).cell d0 hneG
 have y0 : ∀ i : { w' // S w' }, i.val.cell? ⟨w.heap.size, 0, none⟩ = some (.int .i64 op) := fun i => ((HS.out _).1 i.property).cell k0 hne0
 have y1 : ∀ i : { w' // S w' }, i.val.cell? ⟨w.heap.size, 1, none⟩ = some (.int .i64 a) := fun i => ((HS.out _).1 i.property).cell k1 hne0
 have y2 : ∀ i : { w' // S w' }, i.val.cell? ⟨w.heap.size, 2, none⟩ = some (.int .i64 b) := fun i => ((HS.out _).1 i.property).cell k2 hne0
 have y3 : ∀ i : { w' // S w' }, i.val.cell? ⟨w.heap.size, 3, none⟩ = some (.int .i64 c) := fun i => ((HS.out _).1 i.property).cell k3 hne0
 have y4 : ∀ i : { w' // S w' }, i.val.cell? ⟨w.heap.size, 4, none⟩ = some (.int .i64 n) := fun i => ((HS.out _).1 i.property).cell k4 hne0
 have hne : Nonempty { w' // S w' } := ⟨⟨w2, (HS.out _).2 (J0j _ _)⟩⟩;have hS : S w2.drew := (HS.out _).2 (J22 _ _);have HX := J03 (HG.out w2.drew trivial rg rgc (hz.rest.cur.regs).drew);have Hz := J03 (And.intro hz hN);clear hz HG hlr hGr hbr hne0 hneG d0;go_wp2_with (fail)
 refine J01 (S := S) [(0, true), (1, true), (2, true), (3, true), (4, true), (5, true), (6, false), (7, true)] (by kernel_rfl) (by kernel_rfl) (by kernel_rfl) hS ?_
 iterate 6 (refine J00 rfl (by kernel_rfl) (fun K hK => ?_); go_simp; refine hK _ _ ?_; clear hK K)
 refine J02 rfl (by kernel_rfl) (fun K hK => ?_); go_simp;refine HX.out.mono ?_;rintro e w3 ⟨sv3, rfl, hse3, hr3, gr3⟩;obtain ⟨ad3, c3', rfl, hnews⟩ := Jf6 hse3 Hlen.out
 go_simp
 refine hK _ _ ((HS.out _).2 (J0z (J22 _ _) gr3)) ?_; clear hK K;refine J00 rfl (by kernel_rfl) (fun K hK => ?_); go_simp; refine hK _ _ ?_; clear hK K;refine J04 ?_;have h3 := Hz.out.1.regd Hz.out.2 r2 (J0z (J22 w2 (some rg)) gr3) hr3;have b3 : Below G w w3 := Below.grown (J0u H2.out.2) gr3 (Nat.le_of_lt H2.out.1.lt) (fun b hb => by have := (Hz.out.1.rest.lab rg (fun e => by have := Hz.out.1.rest.cur.lr; dsimp only at this e; omega)).1; have := Option.some.inj hb; omega);have hso := h3.rest.seen;obtain ⟨sa, scap, hsv⟩ := J27 hso;dsimp only at hsv;subst hsv;have d9 : w3.cell? ⟨G, 9, none⟩ = some (.slice sa s.seen.length scap) := (h3.cells 9 (by omega)).1;have w9 := h3.cells 9 (by omega);have Hown : Hid (w3.ownsRow (G + 1) 96 3 (.slice sa s.seen.length scap) s.seen.length (flatS s.seen)) := hso;have H3 := J03 (And.intro h3 (And.intro b3 (And.intro w9 hnews)));have hGl : G < w3.heap.size := h3.rest.lt;clear j0 y0 y1 y2 y3 y4 hne hS HS S HX hse3 hr3 gr3 hnews h3 b3 hso w9 k0 k1 k2 k3 k4 H2 Hz;obtain ⟨se, hse⟩ : ∃ x, s.seen = x := ⟨_, rfl⟩;rw [hse] at Hown d9 Hl;obtain ⟨ln, hln⟩ : ∃ x, l2.length = x := ⟨_, rfl⟩;rw [hln] at H3 Hlen |-;have Hln := J03 hln;have Hse := J03 hse;clear hse hln
 go_wp2_with (at_builtin; refine J1r _ rfl (.tmp 24) (.tmp 25) 40 rfl (G + 1) 96 i2 (.agg #[.int .i64 0, .int .i64 0, .int .i64 0]) 3 24 Tryz.underlying40 Hi.out.1 Hi.out.2.1 Hi.out.2.2.1 Hi.out.2.2.2 rfl (by decide) (.slice sa se.length scap) se.length (flatS se) rfl Hown.out ad3 ln c3' (flatS l2) rfl (by rw [J5o, Hln.out]) H3.out.2.2.2 (Jdr _) (by have := Hl.out; have := Hlen.out; unfold maxLen; omega) (by have := Hl.out; have := Hlen.out; omega) (by omega) ?_; intro va cap w4 own4 gr4 at4 nn4; obtain ⟨t9c, t9f⟩ := Wr.kept gr4 (show Wr w3 G 9 (.slice sa se.length scap) by rw [<- Hse.out]; exact H3.out.2.2.1) (fun e => by have := (World.ownsRow.lt Hown.out G e.symm).1; omega); have t3 := (show Wr w3 G 3 (.int .i64 (s.pl.at_ : Int)) from H3.out.1.cells 3 (by omega)).kept gr4 (fun e => by have := (World.ownsRow.lt Hown.out G e.symm).1; omega); obtain ⟨t3c, t3f⟩ := t3; have H4 := J03 (And.intro own4 (And.intro gr4 at4)); clear own4 gr4 at4 nn4)
 obtain ⟨own4, gr4, at4⟩ := H4.out;obtain ⟨h3, b3, _⟩ := H3.out
 have h5 := h3.shown (w' := w4) hN (se ++ l2) (.slice va (se.length + ln) cap) (by unfold SeenOwn; rw [J3y, List.length_append, Hln.out]; exact own4) (by dsimp only; rw [Hse.out]; exact gr4) (fun b hb => by
  rcases at4 b hb with h | h
  ·left; dsimp only; rw [Hse.out]; exact h
  ·right; omega)
 have h6 := h5.setAt hN (s.pl.at_ + 1) ((s.pl.at_ : Int) + 1) (by push_cast; rfl);refine HP.out _ _ ⟨rfl, J0a (J0a (Below.grown b3 gr4 (by omega) (fun b hb => by have := (World.ownsRow.lt Hown.out b hb).1; omega)) _ _) _ _, ?_⟩;rw [Hse.out];exact R4.fewer ⟨hN, ⟨_, h6⟩⟩ mo (fun q hq => List.mem_cons_of_mem _ hq)
end
section
open Go.RowKit
set_option linter.unusedSimpArgs false
set_option linter.unusedVariables false
def endY (y : Ys) : Option (Int × Int) -> Ys
 | none => y
 | some q => { y with e := q.1, v := q.2 }

theorem Jk6 (p : Prg) (l : Loc) (w : World) (G N : Nat) (y : Ys) (s : Sp) (mo : List (Nat × Obj)) (k n : Nat) (h : R4 w G N y (s.see ⟨1, s.pl.at_, 0⟩) mo) (hp : RP w G N p l y) (hi : InvS p k n s) (hat : s.pl.at_ < p.cl) (hcl : p.cl <= 8000) (hin : InsOk p.rl p.log p.cl 10 (p.ins s.pl.at_)) (hk : k <= 99999) (hn : n <= 199999) (hv : y.v = 0) :
  Calls Tryz.prog 25 #[.pointer (some ⟨G, 0, none⟩), .agg #[.int .i64 (p.ins s.pl.at_).op, .int .i64 (p.ins s.pl.at_).a, .int .i64 (p.ins s.pl.at_).b, .int .i64 (p.ins s.pl.at_).c, .int .i64 (p.ins s.pl.at_).n]] w fun e w' => e = .returned (.bool (stepS p s).2.1) /\ Below G w w' /\ R4 w' G N (endY y (stepS p s).2.2) (stepS p s).1 mo := by
 obtain ⟨i, hI⟩ : ∃ i, p.ins s.pl.at_ = i := ⟨_, rfl⟩;rw [hI] at hin |-;obtain ⟨op, a, b, c, im⟩ := i;dsimp only;have hat' : (s.see ⟨1, s.pl.at_, 0⟩).pl.at_ <= 100000 := by show s.pl.at_ <= 100000; omega
 have hpast : ∀ j, j < N -> ((s.see ⟨1, s.pl.at_, 0⟩).pl.past j).length <= 99999 := fun j _ => by show (s.pl.past j).length <= 99999; have := hi.pl.past j; omega
 have hl : (s.see ⟨1, s.pl.at_, 0⟩).seen.length <= 200000 := by show (s.seen ++ [_]).length <= 200000; have := hi.seen; simp; omega
 by_cases h7 : op = 7
 ·have : 0 <= im /\ im < p.cl := by unfold InsOk Plc at hin; simp [h7] at hin; exact hin.2.2.2
  rw [J3d hI h7];exact J9j op a b c im w G N y _ mo h hat' h7 this.1
 by_cases h8 : op = 8
 ·have hpl : (0 <= a /\ a < 10) /\ (0 <= b /\ b < 10) /\ 0 <= im := by unfold InsOk Plc Reg at hin; simp [h8] at hin; omega
  cases hh : J1x c (s.pl.r a.toNat) (s.pl.r b.toNat) with
  | true =>
   rw [J4h hI h8 true hh _ _ rfl rfl];exact J7i op a b c im w G N y _ mo h hat' h8 hpl.2.2 hi.pl.r hpast hpl.1.1 hpl.1.2 hpl.2.1.1 hpl.2.1.2 hh
  | false =>
   rw [J4h hI h8 false hh _ _ rfl rfl];exact J8k op a b c im w G N y _ mo h hat' h8 hpl.2.2 hi.pl.r hpast hpl.1.1 hpl.1.2 hpl.2.1.1 hpl.2.1.2 hh
 by_cases h9 : op = 9
 ·have hpl : 0 <= a /\ a < 10 := by unfold InsOk Reg at hin; simp [h9] at hin; omega
  cases ha : s.ahead with
  | false =>
   rw [J3c hI h9 ha];exact J9i op a b c im w G N y _ mo h hat' h9 ha hpl.1 hpl.2
  | true =>
   rw [J1h hI (.inl ⟨h9, ha⟩)];exact J8l op a b c im w G N y _ mo h hat' h9 ha
 by_cases h12 : op = 12
 ·rw [J1h hI (.inr h12)]
  exact J7j op a b c im w G N y _ mo h hat' h12
 by_cases hw : op = 3 \/ op = 4 \/ op = 5 \/ op = 6
 ·have hr : (0 <= a /\ a < 10) /\ (0 <= b /\ b < 10) /\ 0 <= c /\ c < (p.rl : Int) := by
   unfold InsOk Reg Rgn at hin;rcases hw with e | e | e | e <;> simp [e] at hin <;> omega
  refine (J9l op a b c im w G N y _ mo h hat' p l hp hl hpast hw hr.1.1 hr.1.2 hr.2.1.1 hr.2.1.2 hr.2.2.1 hr.2.2.2).mono ?_;rintro e w' ⟨rfl, b1, r1⟩;unfold WordPost at r1;by_cases hx : s.ahead = false /\ (idxI s.pl.r ⟨op, a, b, c, im⟩ < 0 \/ J0c (p.log c.toNat) <= idxI s.pl.r ⟨op, a, b, c, im⟩)
  ·replace r1 := (if_pos (c := (s.see ⟨1, s.pl.at_, 0⟩).ahead = false /\ (idxI (s.see ⟨1, s.pl.at_, 0⟩).pl.r ⟨op, a, b, c, im⟩ < 0 \/ J0c (p.log c.toNat) <= idxI (s.see ⟨1, s.pl.at_, 0⟩).pl.r ⟨op, a, b, c, im⟩)) hx) ▸ r1
   rw [J2v hI hw hx.1 hx.2];refine ⟨rfl, b1, ?_⟩;have e : endY y (some (2, 0)) = { y with e := 2 } := by unfold endY; dsimp only; rw [hv.symm]
   rw [e];exact r1
  ·replace r1 := (if_neg (c := (s.see ⟨1, s.pl.at_, 0⟩).ahead = false /\ (idxI (s.see ⟨1, s.pl.at_, 0⟩).pl.r ⟨op, a, b, c, im⟩ < 0 \/ J0c (p.log c.toNat) <= idxI (s.see ⟨1, s.pl.at_, 0⟩).pl.r ⟨op, a, b, c, im⟩)) hx) ▸ r1
   rw [J3f hI hw hx];exact ⟨rfl, b1, r1⟩
 have w3 : ¬ op = 3 := by omega
 have w4 : ¬ op = 4 := by omega
 have w5 : ¬ op = 5 := by omega
 have w6 : ¬ op = 6 := by omega
 rw [J3e hI w3 w4 w5 w6 h7 h8 h9 h12];exact J9k op a b c im w G N y _ mo h hat' p hl hin hi.pl.r w3 w4 w5 w6 h7 h8 h9 h12
theorem J6t {s : Sp} {cl : Nat} (h : s.pl.at_ < cl) : s.noneLeft cl = s := by unfold Sp.noneLeft; rw [if_neg (by omega)]
theorem Jf1 {p : Prg} {f k : Nat} {s : Sp} (hc : p.cl <= s.pl.at_) (ha : s.ahead = true) : runS p (f + 1) k s = runS p (f + 1) k s.returns := by
 have e : s.noneLeft p.cl = s.returns := by unfold Sp.noneLeft; rw [if_pos ⟨hc, ha⟩]
 have e2 : s.returns.noneLeft p.cl = s.returns := J54 rfl _;rw [runS, runS, e, e2]
theorem Jd3 {p : Prg} {f k : Nat} {s : Sp} (hc : p.cl <= s.pl.at_) (ha : s.ahead = false) : runS p (f + 1) k s = ⟨2, 0, k, s.seen, s.real.wd⟩ := by
 rw [runS, J54 ha, if_pos hc]
theorem Jhv {p : Prg} {f k : Nat} {s : Sp} {e : Int × Int} (hc : s.pl.at_ < p.cl) (he : (stepS p s).2.2 = some e) : runS p (f + 1) k s = ⟨e.1, e.2, (k : Int) + 1, (stepS p s).1.seen, (stepS p s).1.real.wd⟩ := by
 rw [runS, J6t hc, if_neg (by omega), he]
theorem Jk9 {p : Prg} {f k : Nat} {s : Sp} (hc : s.pl.at_ < p.cl) (he : (stepS p s).2.2 = none) : runS p (f + 1) k s = runS p f (k + 1) ((stepS p s).1.after (stepS p s).2.1) := by
 rw [runS, J6t hc, if_neg (by omega), he]
theorem Jd7 {p : Prg} {s : Sp} {e : Int × Int} (h : (stepS p s).2.2 = some e) : s.ahead = false := by
 unfold stepS at h
 repeat' split at h
 all_goals first | (rename_i hh; exact hh.2) | (rename_i hh; exact hh.1) | (cases h; done) | (simp at h; done) | (simp_all; done)

theorem J6o (s : Sp) : (s.ahead = true /\ s.leave = s) \/ (s.ahead = false /\ s.leave.since = -1) := by
 cases h : s.ahead with
 | true => left; refine ⟨rfl, ?_⟩; unfold Sp.leave; rw [if_pos h]
 | false => right; refine ⟨rfl, ?_⟩; unfold Sp.leave; rw [if_neg (by rw [h]; decide)]
theorem Jb2 (p : Prg) (s : Sp) (i : Ins) (n : Int) : ((wordS p s i n).ahead = s.ahead /\ (wordS p s i n).since = s.since) \/ (s.ahead = false /\ (wordS p s i n).since = -1) := by
 unfold wordS
 split
 ·split
  ·left; exact ⟨rfl, rfl⟩
  ·left; exact ⟨rfl, rfl⟩
 ·split
  ·left; exact ⟨rfl, rfl⟩
  ·split
   ·rcases J6o ({ s with script := s.script.tail }.reg i.a (s.pl.wd n.toNat)) with ⟨h1, h2⟩ | ⟨h1, h2⟩
    ·left; rw [h2]; exact ⟨rfl, rfl⟩
    ·right; exact ⟨h1, h2⟩
   ·left; exact ⟨rfl, rfl⟩
theorem Jay (p : Prg) (s : Sp) : ((stepS p s).1.ahead = s.ahead /\ (stepS p s).1.since = s.since) \/ (s.ahead = false /\ (stepS p s).1.since = -1) := by
 obtain ⟨i, hI⟩ : ∃ i, p.ins s.pl.at_ = i := ⟨_, rfl⟩;by_cases h7 : i.op = 7
 ·rw [J3d hI h7]; left; exact ⟨rfl, rfl⟩
 by_cases h8 : i.op = 8
 ·rw [J4h hI h8 _ rfl _ _ rfl rfl]
  dsimp only
  split
  ·left; exact ⟨rfl, rfl⟩
  ·rcases J6o { (s.see ⟨1, s.pl.at_, 0⟩).go (if J1x i.c (s.pl.r i.a.toNat) (s.pl.r i.b.toNat) = true then i.n.toNat else s.pl.at_ + 1) with script := s.script.tail } with ⟨h1, h2⟩ | ⟨h1, h2⟩
   ·left; rw [h2]; exact ⟨rfl, rfl⟩
   ·right; exact ⟨h1, h2⟩
 by_cases h9 : i.op = 9
 ·cases ha : s.ahead with
  | false => rw [J3c hI h9 ha]; left; exact ⟨ha, rfl⟩
  | true => rw [J1h hI (.inl ⟨h9, ha⟩)]; left; exact ⟨ha, rfl⟩
 by_cases h12 : i.op = 12
 ·rw [J1h hI (.inr h12)]; left; exact ⟨rfl, rfl⟩
 by_cases hw : i.op = 3 \/ i.op = 4 \/ i.op = 5 \/ i.op = 6
 ·by_cases hx : s.ahead = false /\ (idxI s.pl.r i < 0 \/ J0c (p.log i.c.toNat) <= idxI s.pl.r i)
  ·rw [J2v hI hw hx.1 hx.2]; left; exact ⟨rfl, rfl⟩
  ·rw [J3f hI hw hx]; exact Jb2 p (s.on.see ⟨2, numS p s i, putI i⟩) i (numS p s i)
 rw [J3e hI (by omega) (by omega) (by omega) (by omega) h7 h8 h9 h12];left; exact ⟨rfl, rfl⟩
def wgOf : Option Addr -> Nat
 | some a => a.block
 | none => 0
theorem RS.begin {w : World} {G N : Nat} {y : Ys} {wa : Option Addr} {wc pg pc rg : Nat} {sc : Value} {L : List Int} {f : Nat -> Int} (hN : N <= 384) (hG : G < rg) (hrg : RegsR w rg (fun _ => 0)) (hsc : ScAt w G sc L)
  (hw : w.ownsRow (rg + 1) 2 1 (.slice wa N wc) N ((List.range N).map fun j => .int .i64 (f j))) (hwb : ∀ b, (Value.slice wa N wc).ownBlock = some b -> b < pg) (hpg : rg < pg) (hp : ∀ j, j < N -> Wr w pg j (.slice none 0 0)) (hpl : pg < w.heap.size) {z : Zs}
  (hz : z = ⟨.slice none 0 0, sc, .slice none 0 0, .slice none 0 0, .slice none 0 0, .int .i64 0, ⟨rg, 10, wgOf wa, wa, wc, pg, some ⟨pg, 0, none⟩, N, fun _ => .slice none 0 0⟩, ⟨0, 0, 0, none, 0, 0, none, 0, fun _ => .slice none 0 0⟩, fun c => if c = rg then 1 else if 0 < N /\ (Value.slice wa N wc).ownBlock = some c then 2 else if c = pg then 3 else 0⟩)
  (hc : ∀ j, j < 18 -> Wr w G j (gV N y ⟨⟨0, fun _ => 0, f, fun _ => []⟩, false, 0, ⟨0, fun _ => 0, f, fun _ => []⟩, L, []⟩ z j)) : RS w G N y ⟨⟨0, fun _ => 0, f, fun _ => []⟩, false, 0, ⟨0, fun _ => 0, f, fun _ => []⟩, L, []⟩ [] z := by
 have hgl : G < w.heap.size := J05 (hc 0 (by omega)).1;subst hz;refine ⟨hc, hgl, fun c hc' => ?_, ?_, fun h => absurd h (by simp), World.ownsRow_nil _ _ _ _, fun b hb => by simp [Value.ownBlock] at hb, hsc, fun p hp => by cases hp⟩
 ·dsimp only at hc'
  split at hc'
  ·rename_i e; subst e
   exact ⟨hG, J05 (hrg 0 (by omega)).1⟩
  ·split at hc'
   ·rename_i e
    have h1 := World.ownsRow.lt hw c e.2;omega
   ·split at hc'
    ·rename_i e; subst e; omega
    ·exact absurd rfl hc'
 ·refine ⟨by dsimp only; rw [if_pos rfl], hrg, fun h0 => ?_, fun h0 => ?_, fun j hj => ?_, fun h0 => ?_, fun _ => rfl, hp, fun j hj => World.ownsRow_nil _ _ _ _, fun j hj b hb => by simp [Value.ownBlock] at hb, ?_⟩
  rotate_right
  ·rcases hw.2 with ⟨h, h0⟩ | ⟨_, cap', _, h, _, _, hn, _⟩
   ·dsimp only; omega
   ·injection h with _ _ h3; dsimp only; omega
  ·obtain ⟨g2, c2, e2, l2, _⟩ := World.ownsRow.form hw h0
   injection e2 with e2 _ _
   subst e2;dsimp only [wgOf];rw [if_neg (by omega), if_pos ⟨h0, rfl⟩]
  ·obtain ⟨g2, c2, e2, l2, _⟩ := World.ownsRow.form hw h0
   injection e2 with e2 _ _
   subst e2
   rfl
  ·obtain ⟨g2, c2, e2, l2, _⟩ := World.ownsRow.form hw (by omega)
   injection e2 with e2 _ e4
   subst e2;exact ⟨by dsimp only [wgOf]; rw [World.ownsRow.cellAt hw j (by omega)]; simp [hj], World.ownsRow.frozenAt hw j⟩
  ·dsimp only
   rw [if_neg (by omega), if_neg (fun e => by have := hwb pg e.2; omega), if_pos rfl]

theorem Jds (m : Mem) (k : Nat) (hk : k < m.ml) : ((List.range (baseN m.len k)).map fun j => Value.int .i64 (flatM m j)) ++ J2i m k = (List.range (baseN m.len (k + 1))).map fun j => Value.int .i64 (flatM m j) := by
 apply List.ext_getElem?;intro j;by_cases h1 : j < baseN m.len k
 ·rw [List.getElem?_append_left (by simpa using h1)]
  simp only [List.getElem?_map];rw [List.getElem?_range h1, List.getElem?_range (by simp only [baseN]; omega)]
 ·rw [List.getElem?_append_right (by simp; omega)]
  simp only [List.length_map, List.length_range];by_cases h2 : j < baseN m.len k + m.len k
  ·rw [J46 m k _ (by omega)]
   simp only [List.getElem?_map];rw [List.getElem?_range (by simp only [baseN]; omega)];have := J5y m k (j - baseN m.len k) hk (by omega);rw [show baseN m.len k + (j - baseN m.len k) = j by omega] at this;simp [this]
  ·rw [List.getElem?_eq_none (by rw [J2o]; omega), List.getElem?_eq_none (by simp [baseN]; omega)]
end
section
open Go
section
variable {P : Program} {ops : Array Oper} {Q : Exit -> Act -> World -> Prop} {md : Region.Mode} {S : World -> Prop} {ex : List Nat}

def J80 (ex : List Nat) (md : Region.Mode) (ops : Array Oper) (j : Nat) : Bool :=
 match ops[j]? with
 | none => false
 | some o => (List.range ops.size).all fun i => i == j || ex.contains i || o.after.any fun e => Region.binds md e && e.on == i

def AnyM (ex : List Nat) (P : Program) (md : Region.Mode) (ops : Array Oper) (Q : Exit -> Act -> World -> Prop) (S : World -> Prop) : Nat -> Array Bool -> Act -> World -> Prop
 | 0, l, a, w => Region.ready md ops l = [] /\ Q .normal a w
 | n + 1, l, a, w => (Region.ready md ops l = [] -> Q .normal a w) /\ ∀ i ∈ Region.ready md ops l, wpOp P ops Q i (fun a' w' => (J80 ex md ops i = false -> S w -> S w') /\ AnyM ex P md ops Q S n (l.setIfInBounds i true) a' w') a w

theorem AnyM.any : ∀ (n : Nat) (l : Array Bool) (a : Act) (w : World), AnyM ex P md ops Q S n l a w -> wpAny P md ops Q n l a w
 | 0, _, _, _, h => h
 | n + 1, _, _, _, h => ⟨h.1, fun i hi => wpOp_mono (fun a' w' h' => AnyM.any n _ a' w' h'.2) (h.2 i hi)⟩

theorem Jfk {i j : Nat} {l : Array Bool} (hex : ex.contains i = false) (hi : i ∈ Region.ready md ops l) (hj : j ∈ Region.ready md ops l) (hne : j ≠ i) : J80 ex md ops j = false := by
 cases hb : J80 ex md ops j with
 | false => rfl
 | true =>
  exfalso
  obtain ⟨_, oj, hoj, hall⟩ := mem_ready.1 hj;obtain ⟨hun, oi, hoi, _⟩ := mem_ready.1 hi;unfold J80 at hb;rw [hoj] at hb;dsimp only at hb;rw [List.all_eq_true] at hb;have h1 := hb i (List.mem_range.2 (Array.getElem?_eq_some_iff.1 hoi).1);rw [Bool.or_eq_true, Bool.or_eq_true, hex] at h1;rcases h1 with (h1 | h1) | h1
  rotate_left
  ·cases h1
  rotate_left
  ·exact hne (by simpa using h1 : i = j).symm
  ·obtain ⟨e, he, hbe⟩ := Array.any_eq_true'.1 h1
   rw [Bool.and_eq_true, beq_iff_eq] at hbe;have h2 := hall e he hbe.1;rw [hbe.2] at h2;rcases Nat.lt_or_ge i l.size with h' | h'
   ·simp [h'] at hun h2; rw [hun] at h2; cases h2
   ·simp [Array.getElem?_eq_none h'] at h2

theorem AnyM.take {i : Nat} {oi : Oper} {v : Value} (hi : ops[i]? = some oi) (hs : Region.noSelect ops = true) (hQ : ∀ c a w, Q (.panic c) (a.put oi.dst v) w -> Q (.panic c) a w) :
  ∀ (n : Nat) (l : Array Bool) (a : Act) (w : World), (∀ j oj, ops[j]? = some oj -> j ≠ i -> l.getD j true = false -> (∀ e ∈ oj.after, Region.binds md e = true -> e.on ≠ i) -> oi.apart ops oj = true) ->
   i ∈ Region.ready md ops l -> YieldsIf P ops (fun w => ex.contains i = false -> S w) oi v a -> (ex.contains i = false -> S w) -> AnyM ex P md ops Q S n (l.setIfInBounds i true) (a.put oi.dst v) w -> AnyM ex P md ops Q S (n + 1) l a w
 | n, l, a, w, hf, hr, hy, hS, H => by
  refine ⟨fun h => absurd hr (by rw [h]; simp), fun j hj => ?_⟩;by_cases hji : j = i
  ·subst hji
   exact hy.wpOp hi hS ⟨fun _ h => h, H⟩
  have hjm := ready_mono hj hji;cases n with
  | zero => rw [H.1] at hjm; cases hjm
  | succ n =>
   obtain ⟨hjun, oj, hoj, hall⟩ := mem_ready.1 hj
   have hno : ∀ e ∈ oj.after, Region.binds md e = true -> e.on ≠ i := fun e he hb hei => by
    have h1 := hall e he hb;have h0 := (mem_ready.1 hr).1;rw [hei] at h1;rcases Nat.lt_or_ge i l.size with h' | h'
    ·simp [h'] at h0 h1; rw [h0] at h1; cases h1
    ·simp [Array.getElem?_eq_none h'] at h1
   have h2 := wpOp_putIf hoj (hf j oj hoj hji hjun hno) (fun cs b => Region.noSelect_spec hs i oi cs b hi) (fun cs b => Region.noSelect_spec hs j oj cs b hoj) hQ hy (H.2 j hjm);refine wpOp_mono (fun a' w' h3 => ?_) h2;refine ⟨h3.2.1, AnyM.take hi hs hQ n (l.setIfInBounds j true) a' w' (fun k ok hk hki hun hno' => hf k ok hk hki ?_ hno') (ready_mono hr (Ne.symm hji)) h3.1 (fun hx => h3.2.1 (Jfk hx hr hj hji) (hS hx)) ?_⟩
   ·by_cases e : j = k
    ·subst e; exact hjun
    ·rw [getD_set_ne true e] at hun; exact hun
   ·rw [Array.setIfInBounds_comm _ _ hji]
    exact h3.2.2

def J5b (ex : List Nat) (P : Program) (ops : Array Oper) (Q : Exit -> Act -> World -> Prop) (S : World -> Prop) : List (Nat × Bool) -> Act -> World -> Prop
 | [], a, w => Q .normal a w
 | (i, t) :: rest, a, w =>
  match ops[i]? with
  | none => False
  | some o => if t then J26 P ops (fun w' => ex.contains i = false -> S w') o a w (fun a' w' => J5b ex P ops Q S rest a' w') else J1u P ops Q o a w (fun a' w' => (J80 ex .any ops i = false -> S w') /\ (rest ≠ [] -> S w') /\ J5b ex P ops Q S rest a' w')

theorem J3h (hs : Region.noSelect ops = true) (hQ : ∀ c (a : Act) d v w, Q (.panic c) (a.put d v) w -> Q (.panic c) a w) :
  ∀ (l : List (Nat × Bool)) (listed : Array Bool) (a : Act) (w : World), ordB .any ops l listed = true -> (l ≠ [] -> S w) -> J5b ex P ops Q S l a w -> AnyM ex P .any ops Q S l.length listed a w
 | [], listed, a, w, hB, _, h => ⟨by simpa [ordB] using hB, h⟩
 | (i, t) :: rest, listed, a, w, hB, hS, h => by
  replace hS : S w := hS (by simp);simp only [ordB, Bool.and_eq_true] at hB;obtain ⟨⟨ho, hc⟩, hB'⟩ := hB;obtain ⟨o, ho⟩ := Option.isSome_iff_exists.1 ho;simp only [J5b, ho] at h;cases t with
  | true =>
   simp only [if_true, Bool.and_eq_true] at hc h;unfold J26 at h;have hr : i ∈ Region.ready .any ops listed := by simpa using hc.2
   by_cases hw : Region.wanted o (yielded ops a.tmps) = true
   ·rw [if_pos hw] at h
    obtain ⟨v, hv, hk⟩ := h;exact AnyM.take ho hs (fun c a w => hQ c a _ _ w) _ _ _ _ (Region.free_spec ho hc.1) hr (.inl ⟨hw, fun w' hw' => hv ⟨w', hw'⟩⟩) (fun _ => hS) (J3h hs hQ rest _ _ _ hB' (fun _ => hS) hk)
   ·rw [if_neg hw] at h
    exact AnyM.take ho hs (fun c a w => hQ c a _ _ w) _ _ _ _ (Region.free_spec ho hc.1) hr (.inr ⟨by simpa using hw, rfl⟩) (fun _ => hS) (J3h hs hQ rest _ _ _ hB' (fun _ => hS) h)
  | false =>
   simp only [Bool.false_eq_true, if_false, beq_iff_eq] at hc h;refine ⟨fun h0 => absurd (hc.symm.trans h0) (by simp), fun j hj => ?_⟩;obtain rfl : j = i := by rw [hc] at hj; simpa using hj
   unfold J1u at h;unfold wpOp;rw [ho];show if Region.wanted o (yielded ops a.tmps) = true then _ else _
   by_cases hw : Region.wanted o (yielded ops a.tmps) = true
   ·rw [if_pos hw] at h |-
    exact .inl (Oper.wp_mono (fun a' w' h' => ⟨fun hb _ => h'.1 hb, J3h hs hQ rest _ _ _ hB' h'.2.1 h'.2.2⟩) h)
   ·rw [if_neg hw] at h |-
    exact ⟨fun hb _ => h.1 hb, J3h hs hQ rest _ _ _ hB' h.2.1 h.2.2⟩

structure OrdM (ex : List Nat) (P : Program) (ops : Array Oper) (Q : Exit -> Act -> World -> Prop) (S : World -> Prop) (l : List (Nat × Bool)) (a : Act) (w : World) : Prop where
 out : J5b ex P ops Q S l a w

theorem J49 {id : Nat} {a : Act} {w : World} (ex : List Nat) (l : List (Nat × Bool)) (hm : P.follows .mixedOrders = true) (hs : Region.noSelect ops = true)
  (hB : (ordB .any ops l (Array.replicate ops.size false) && l.length == ops.size) = true) (hS : S w.drew) (h : OrdM ex P ops (NoPanic Q) S l a w.drew) : (Code.region id ops true).wp P Q a w := by
 rw [Bool.and_eq_true] at hB;have hl : l.length = ops.size := by simpa using hB.2
 refine wp_region_noPanic (wp_region_any hm ?_);rw [<- hl];have := J3h (ex := ex) (P := P) (S := S) (Q := NoPanic Q) hs (fun _ _ _ _ _ h => h) l (Array.replicate ops.size false) a w.drew hB.1 (fun _ => hS) h.out;have := this.any
 rwa [<- hl] at this

theorem J7d {ls : List Oper} {i : Nat} {o : Oper} {rest : List (Nat × Bool)} {a : Act} {w : World} (ho' : nth ls i = some o) (hw : Region.wanted o (yielded ls.toArray a.tmps) = true)
  (h : ∀ K : Act -> World -> Prop, (∀ a w, OrdM ex P ls.toArray Q S rest a w -> K a w) -> ∃ v, (∀ w' : World, (execOp a.eval o).run P w' = .ok (.value v) w') /\ K (a.put o.dst v) w) :
  OrdM ex P ls.toArray Q S ((i, true) :: rest) a w := by
 have ho := J1z ho';refine ⟨?_⟩;simp only [J5b, ho];unfold J26;simp only [if_true];rw [if_pos hw];obtain ⟨v, h1, h2⟩ := h _ (fun _ _ h => h.out);exact ⟨v, fun i => h1 _, h2⟩
theorem J3n {ls : List Oper} {i : Nat} {o : Oper} {rest : List (Nat × Bool)} {a : Act} {w : World} (ho' : nth ls i = some o) (hw : Region.wanted o (yielded ls.toArray a.tmps) = true) (hx : ex.contains i = false)
  (h : ∀ K : Act -> World -> Prop, (∀ a w, OrdM ex P ls.toArray Q S rest a w -> K a w) -> ∃ v, (∀ i : { w' // S w' }, (execOp a.eval o).run P i.val = .ok (.value v) i.val) /\ K (a.put o.dst v) w) :
  OrdM ex P ls.toArray Q S ((i, true) :: rest) a w := by
 have ho := J1z ho';refine ⟨?_⟩;simp only [J5b, ho];unfold J26;simp only [if_true];rw [if_pos hw];obtain ⟨v, h1, h2⟩ := h _ (fun _ _ h => h.out);exact ⟨v, fun i => h1 ⟨i.val, i.property hx⟩, h2⟩
theorem J2x {ls : List Oper} {i : Nat} {o : Oper} {rest : List (Nat × Bool)} {a : Act} {w : World} (ho' : nth ls i = some o) (hw : Region.wanted o (yielded ls.toArray a.tmps) = true)
  (h : ∀ K : Act -> World -> Prop, (∀ a w, S w -> OrdM ex P ls.toArray Q S rest a w -> K a w) -> Oper.wp P o a w K Q) : OrdM ex P ls.toArray Q S ((i, false) :: rest) a w := by
 have ho := J1z ho';refine ⟨?_⟩;simp only [J5b, ho, Bool.false_eq_true, if_false];unfold J1u;rw [if_pos hw];exact h _ (fun _ _ hs h => ⟨fun _ => hs, fun _ => hs, h.out⟩)
theorem J7c {ls : List Oper} {i : Nat} {o : Oper} {a : Act} {w : World} (ho' : nth ls i = some o) (hw : Region.wanted o (yielded ls.toArray a.tmps) = true) (hl : J80 ex .any ls.toArray i = true)
  (h : ∀ K : Act -> World -> Prop, (∀ a w, Q .normal a w -> K a w) -> Oper.wp P o a w K Q) : OrdM ex P ls.toArray Q S [(i, false)] a w := by
 have ho := J1z ho';refine ⟨?_⟩;simp only [J5b, ho, Bool.false_eq_true, if_false];unfold J1u;rw [if_pos hw];exact h _ (fun _ _ h => ⟨fun e => absurd (hl.symm.trans e) (by simp), fun e => absurd rfl e, h⟩)
end
end
section
open Go.RowKit
set_option linter.unusedSimpArgs false
set_option linter.unusedVariables false
theorem Jaa {P : Prop} (h : P) : Hid P := h
structure SIn (w : World) (sa : Option Addr) (sb so : Nat) (L : List Int) : Prop where
 ha : 0 < L.length -> sa = some ⟨sb, so, none⟩
 cells : ∀ (j : Nat) (c : Int), L[j]? = some c -> w.cell? ⟨sb, so + j, none⟩ = some (.int .i64 c)
theorem SIn.more {w w' : World} (m : More w w') {sa : Option Addr} {sb so : Nat} {L : List Int} (h : SIn w sa sb so L) : SIn w' sa sb so L := ⟨h.ha, fun j c hc => m.cell (h.cells j c hc)⟩
def ScOk (L : List Int) : Prop := L.length <= 2000 /\ ∀ (j : Nat) (c : Int), L[j]? = some c -> 0 <= c

theorem Jcx (sa : Option Addr) (sb so n cap : Nat) (L : List Int) (hn : L.length = n) (w : World) (h : SIn w sa sb so L) :
  Calls Tryz.prog 7 #[.slice sa n cap] w fun e w' => ∃ r : Bool, e = .returned (.bool r) /\ (r = true ↔ ScOk L) /\ w' = w := by
 have H := Jaa (And.intro h hn);clear h hn;by_cases h2 : 2000 < n
 ·have h2' : (2000 : Int) < (n : Int) := by omega
  go_enter Tryz.func7, Tryz.ntmps7;go_wp2;go_ret;exact ⟨false, rfl, ⟨(fun h => by cases h), fun h => by have := h.1; rw [H.out.2] at this; omega⟩, rfl⟩
 ·have h2' : ¬ (2000 : Int) < (n : Int) := by omega
  go_enter Tryz.func7, Tryz.ntmps7;go_wp2;go_loopg [3] n (fun g i wr => ∃ k : Nat, k + g = n /\ i = .int .i64 k /\ (∀ (j : Nat) (c : Int), j < k -> L[j]? = some c -> 0 <= c) /\ wr = w)
  case atStart => exact ⟨0, by omega, rfl, fun j c hj => by omega, rfl⟩
  case round =>
   obtain ⟨k, hkg, rfl, hok, rfl⟩ := hrel;have Hok := Jaa hok;clear hok;cases gk with
   | zero =>
    obtain rfl : k = n := by omega
    go_wp2;go_ret;refine ⟨true, rfl, ⟨fun _ => ⟨by have := H.out.2; omega, fun j c hc => ?_⟩, fun _ => rfl⟩, rfl⟩;exact Hok.out j c (by have := (List.getElem?_eq_some_iff.1 hc).1; have := H.out.2; omega) hc
   | succ g =>
    have hk : k < n := by omega
    have hk' : (k : Int) < (n : Int) := by omega
    have hkw : wrap64 ((k : Int) + 1) = (k : Int) + 1 := by unfold wrap64; omega
    obtain rfl := H.out.1.ha (by have := H.out.2; omega);obtain ⟨c, hc⟩ : ∃ c, L[k]? = some c := ⟨L[k]'(by have := H.out.2; omega), List.getElem?_eq_getElem _⟩;have hcell := H.out.1.cells k c hc;have Hc := Jaa hc;clear hc;by_cases c0 : c < 0
    ·go_wp2
     go_ret;refine ⟨false, rfl, ⟨(fun h => by cases h), fun h => ?_⟩, rfl⟩;have := h.2 k c Hc.out;omega
    ·go_wp2
     go_roundg g
     case measure => omega
     case rel =>
      refine ⟨k + 1, by omega, by first | rfl | (push_cast; rfl) | simp, fun j c' hj hc' => ?_, rfl⟩;by_cases e : j = k
      ·subst e
       rw [Hc.out] at hc';obtain rfl := Option.some.inj hc';omega
      ·exact Hok.out j c' (by omega) hc'
structure TS (w : World) (G N : Nat) (y : Ys) (f : Nat -> Int) (se : List Se) (sv : Value) (wa : Option Addr) (wc wg : Nat) : Prop where
 e : Wr w G 6 (.int .i64 y.e)
 v : Wr w G 7 (.int .i64 y.v)
 k : Wr w G 8 (.int .i64 y.k)
 csv : Wr w G 9 sv
 mv : Wr w G 10 y.mv
 words : Wr w G 1 (.slice wa N wc)
 hwa : 0 < N -> wa = some ⟨wg, 0, none⟩
 cells : ∀ j, j < N -> w.cell? ⟨wg, j, none⟩ = some (.int .i64 (f j))
 lt : 0 < N -> G < wg
 cap : N <= wc
 seen : SeenOwn w (G + 1) sv se
 n : N <= 384
theorem R4.here {w : World} {G N : Nat} {y : Ys} {s : Sp} (h : R4 w G N y s []) (ha : s.ahead = false) : ∃ sv wa wc wg, TS w G N y s.real.wd s.seen sv wa wc wg := by
 obtain ⟨hN, z, hz⟩ := h.out;have e : s.real = s.pl := by unfold Sp.real; rw [if_neg (by rw [ha]; decide)]
 rw [e];exact ⟨z.sv, z.a.wa, z.a.wc, z.a.wg, hz.cells 6 (by omega), hz.cells 7 (by omega), hz.cells 8 (by omega), hz.cells 9 (by omega), hz.cells 10 (by omega), hz.cells 1 (by omega), hz.rest.cur.wa, fun j hj => (hz.rest.cur.words j hj).1, fun h0 => (hz.rest.lab _ (by rw [hz.rest.cur.lw h0]; omega)).1, hz.rest.cur.cap, hz.rest.seen, hN⟩
theorem RS.there {w : World} {G N : Nat} {y : Ys} {s : Sp} {z : Zs} (hz : RS w G N y s [] z) (hN : N <= 384) (ha : s.ahead = true) :
  ∃ sv wa wc wg, TS ((((w.setCell ⟨G, 0, none⟩ z.b0).setCell ⟨G, 1, none⟩ z.b1).setCell ⟨G, 2, none⟩ z.b2).setCell ⟨G, 3, none⟩ z.b3) G N y s.real.wd s.seen sv wa wc wg := by
 have e : s.real = s.back := by unfold Sp.real; rw [if_pos ha]
 rw [e];have g4 := J10 (J10 (J10 (J10 (J0j w (some G)) 0 z.b0) 1 z.b1) 2 z.b2) 3 z.b3;have r := hz.rest.kept hN g4 hz.rest.own;obtain ⟨hb, _, e1, _⟩ := r.back ha
 have hk : ∀ j v, Wr w G j v -> 4 <= j -> Wr ((((w.setCell ⟨G, 0, none⟩ z.b0).setCell ⟨G, 1, none⟩ z.b1).setCell ⟨G, 2, none⟩ z.b2).setCell ⟨G, 3, none⟩ z.b3) G j v := fun j v hv n =>
  (((hv.other _ _ _ (by omega)).other _ _ _ (by omega)).other _ _ _ (by omega)).other _ _ _ (by omega)
 refine ⟨z.sv, z.b.wa, z.b.wc, z.b.wg, hk 6 _ (hz.cells 6 (by omega)) (by omega), hk 7 _ (hz.cells 7 (by omega)) (by omega), hk 8 _ (hz.cells 8 (by omega)) (by omega), hk 9 _ (hz.cells 9 (by omega)) (by omega), hk 10 _ (hz.cells 10 (by omega)) (by omega), ?_, hb.wa, fun j hj => (hb.words j hj).1, fun h0 => (r.lab _ (by rw [hb.lw h0]; omega)).1, hb.cap, r.seen, hN⟩;have := (((((hz.cells 1 (by omega)).other G 0 z.b0 (by omega)).same z.b1).other G 2 z.b2 (by omega)).other G 3 z.b3 (by omega));exact (congrArg _ e1).mp this
structure Kept (A : Prop) : Prop where
 out : A
theorem Jj0 {G : Prop} {A : Prop} (h1 : Kept A -> G) (h2 : A) : G := h1 ⟨h2⟩
def J1v : List Nat := [11, 55, 56, 57, 58, 59, 60, 61, 62, 63, 64, 65, 66, 67, 68, 69, 70, 71, 72, 73, 74, 75, 76, 77, 78, 79, 80, 81, 82, 83, 84, 85, 86, 87, 88, 89, 90, 91, 92, 93, 94, 95, 96, 97, 98, 99, 100, 101, 102, 103, 104, 105, 106, 107, 108, 109, 110, 111, 112, 113, 114, 115, 116, 117, 118, 119, 120, 121, 122, 123, 124, 125, 126, 127, 128, 129, 130, 131, 132, 133, 134, 135, 136, 137, 138, 139, 140, 141, 142, 143, 144, 145, 146, 147, 148]
theorem Jhh (a : Act) (k : Nat) (h : k < a.tmps.size) : a.put (some k) (a.tmps.getD k undef) = a := by
 unfold Act.put;cases a with
 | mk t d =>
  simp only at h |-
  congr 1
  apply Array.ext_getElem?;intro i;rw [Array.getElem?_setIfInBounds];by_cases e : k = i
  ·subst e; simp [h]
  ·simp [e]
theorem J7v (a : Act) : ∀ ks : List Nat, ks.all (· < a.tmps.size) = true -> ks.foldl (fun b k => b.put (some k) (a.tmps.getD k undef)) a = a
 | [], _ => rfl
 | k :: ks, h => by
  simp only [List.all_cons, Bool.and_eq_true, decide_eq_true_eq] at h;rw [List.foldl_cons, Jhh a k h.1];exact J7v a ks h.2
theorem J5d {P : Program} {C : Code} {Q : Exit -> Act -> World -> Prop} {w : World} (ks : List Nat) {a : Act} (h : ks.all (· < a.tmps.size) = true)
  (k : ∀ f : Nat -> Value, C.wp P Q (ks.foldl (fun b k => b.put (some k) (f k)) a) w) : C.wp P Q a w := by
 have := k (fun k => a.tmps.getD k undef);rw [J7v a ks h] at this;exact this
end
section
open Go.RowKit
set_option linter.unusedSimpArgs false
set_option linter.unusedVariables false
set_option maxRecDepth 8000
def J5w (m : Mem) (R : ShF) (w : World) (e : Ending) (w' : World) : Prop :=
 ∃ (v : Value) (mm : Mem), e = .returned v /\ ShownAt w' v ⟨R.fin, R.val, R.steps, R.seen, mm⟩ /\ mm.ml = m.ml /\ (∀ j, mm.len j = m.len j) /\ (∀ j, j < m.ml -> ∀ i, i < m.len j -> mm.wd j i = R.wd (baseN m.len j + i)) /\ More w w'

theorem Jgu (j N : Nat) (h : j < N) : (madeCells #[.slice none 0 0] N)[j]? = some (.slice none 0 0) := by
 unfold madeCells;simp [h, Nat.mod_one]

theorem Jfg (a b : Nat) : ((a : Int) + (b : Int)).toNat = a + b := by omega

theorem Jhj (w : World) (ra : Option Addr) (rl rc : Nat) (ca : Option Addr) (cl cc : Nat) (sa : Option Addr) (sn sc : Nat) (f : Nat -> Int) (L : List Int) (G : Nat) (hG : w.heap.size + 1 + 1 = G) (W3 : World) (hW : W3 = (((w.alloc (.cells #[.slice ra rl rc, .slice ca cl cc] 25)).alloc (.cells #[.int .i64 0, .int .i64 0, .int .i64 0, .slice none 0 0, .slice none 0 0] 42)).alloc (.cells #[.slice (some ⟨w.heap.size + 1 + 1 + 1, 0, none⟩) 10 10, .slice none 0 0, .slice none 0 0, .int .i64 0, .slice ra rl rc, .slice ca cl cc, .int .i64 0, .int .i64 0, .int .i64 0, .slice none 0 0, .slice none 0 0, .slice sa sn sc, .bool false, .int .i64 0, .slice none 0 0, .slice none 0 0, .slice none 0 0, .int .i64 0] 76)).alloc (.cells (madeCells #[.int .i64 0] 10) 2)) :
  More w W3 /\ W3.heap.size = G + 2 /\ (W3.cell? ⟨w.heap.size, 0, none⟩ = some (.slice ra rl rc) /\ W3.cell? ⟨w.heap.size, 1, none⟩ = some (.slice ca cl cc)) /\
   (Wr W3 (w.heap.size + 1) 0 (.int .i64 0) /\ Wr W3 (w.heap.size + 1) 1 (.int .i64 0) /\ Wr W3 (w.heap.size + 1) 2 (.int .i64 0) /\ Wr W3 (w.heap.size + 1) 3 (.slice none 0 0) /\ Wr W3 (w.heap.size + 1) 4 (.slice none 0 0)) /\
   (∀ j, j < 18 -> Wr W3 G j (gV 0 ⟨.slice ra rl rc, .slice ca cl cc, .slice none 0 0, 0, 0, 0⟩ ⟨⟨0, fun _ => 0, f, fun _ => []⟩, false, 0, ⟨0, fun _ => 0, f, fun _ => []⟩, L, []⟩ ⟨.slice none 0 0, .slice sa sn sc, .slice none 0 0, .slice none 0 0, .slice none 0 0, .int .i64 0, ⟨G + 1, 10, 0, none, 0, 0, none, 0, fun _ => .slice none 0 0⟩, ⟨0, 0, 0, none, 0, 0, none, 0, fun _ => .slice none 0 0⟩, fun _ => 0⟩ j)) /\ RegsR W3 (G + 1) (fun _ => 0) := by
 subst hG hW;refine ⟨((((More.refl _).alloc _ _).alloc _ _).alloc _ _).alloc _ _, by simp, ⟨by go_simp, by go_simp⟩, ⟨⟨by go_simp, by go_simp⟩, ⟨by go_simp, by go_simp⟩, ⟨by go_simp, by go_simp⟩, ⟨by go_simp, by go_simp⟩, ⟨by go_simp, by go_simp⟩⟩, ?_, fun j hj => ?_⟩
 ·refine lt18 ?_ ?_ ?_ ?_ ?_ ?_ ?_ ?_ ?_ ?_ ?_ ?_ ?_ ?_ ?_ ?_ ?_ ?_ <;> exact ⟨by dsimp only [gV, PV.regs, PV.words, PV.past]; go_simp, by go_simp⟩
 ·have hj2 := Jjr j hj
  exact ⟨by go_simp, by go_simp⟩

theorem Jek (p : Prg) (l : Loc) (m : Mem) (ml : MLoc) (sa : Option Addr) (sb so sn sc : Nat) (L : List Int) (fuel : Nat) (w : World) (hp : PIn w p l) (hm : MIn w m ml) (hok : p.Ok 8000 10) (hn64 : ∀ i, i < p.cl -> B64 (p.ins i).n) (hfit : J1t p.rl p.log m.ml m.len) (hwd : ∀ j, j < m.ml -> ∀ i, i < m.len j -> B64 (m.wd j i)) (hfuel : fuel <= 40000) (hL : L.length = sn) (hcap : sn <= sc) (hs : SIn w sa sb so L) (hsok : ScOk L) :
  Calls Tryz.prog 10 #[.agg #[.slice l.ra p.rl l.rc, .slice l.ca p.cl l.cc], .slice ml.ma m.ml ml.mc, .slice sa sn sc, .int .i64 fuel] w (J5w m (playS p (flatM m) L fuel) w) := by
 have hml : m.ml = p.rl := hfit.2.1;have hlen : ∀ i, i < m.ml -> (m.len i : Int) = J0c (p.log i) := fun i hi => hfit.2.2 i (by omega)
 have hpos : ∀ i, i < m.ml -> 0 < m.len i /\ m.len i <= 64 := fun i hi => by
  have h1 := hlen i hi;have h2 := hok.1.2 i (by omega);have h3 := J1b (k := (p.log i).toNat) (by omega);unfold J0c at h1;omega
 have hm6 : m.ml <= 6 := by rw [hml]; exact hok.1.1
 have hcl : 1 <= p.cl /\ p.cl <= 8000 := ⟨hok.2.1, hok.2.2.1⟩;have hall : allI p = (baseN m.len m.ml : Int) := Jkx hml hlen
 have hble : ∀ j, j <= m.ml -> baseN m.len j <= 384 := fun j hj => by
  have h1 := Jb7 m.len j (fun i hi => (hpos i (by omega)).2);omega
 have hinv : InvS p 0 (4 * 0) ⟨⟨0, fun _ => 0, flatM m, fun _ => []⟩, false, 0, ⟨0, fun _ => 0, flatM m, fun _ => []⟩, L, []⟩ := by
  refine ⟨⟨Nat.zero_le _, fun _ _ => J4a, fun j hj => ?_, fun j => Nat.le_refl _, fun j hj v hv => by simp at hv⟩, fun a => by simp at a, Nat.le_refl _, fun c hc => ?_⟩
  ·rw [hall] at hj
   obtain ⟨c, i, h1, h2, rfl⟩ := J8r m.len m.ml j (by omega);dsimp only;rw [J5y m c i h1 h2];exact hwd c h1 i h2
  ·obtain ⟨j, hj⟩ := List.getElem?_of_mem hc
   exact hsok.2 j c hj
 obtain ⟨ra, rb, ro, rc, ca, cb, co, cc⟩ := l;obtain rfl : ca = some ⟨cb, co, none⟩ := hp.hc (by omega);obtain ⟨ma, mb, mo', mc, MA, MC0, gb, go⟩ := ml;dsimp only;obtain ⟨R, HR⟩ : ∃ R, Hid (playS p (flatM m) L fuel = R) := ⟨_, rfl⟩;rw [HR.out];obtain ⟨P, HP⟩ : ∃ P, Hid (P = J5w m R w) := ⟨_, rfl⟩;rw [<- HP.out];have H0 := J03 (And.intro hp (And.intro hok (And.intro hn64 (And.intro hml (And.intro hlen (And.intro hpos (And.intro hm6 (And.intro hcl (And.intro hall (And.intro hble hinv))))))))));have HM := J03 hm;have HS := J03 (And.intro hfuel (And.intro hL (And.intro hcap (And.intro hs hsok))));obtain ⟨i0, hi, hz0, hz1, hz2⟩ := info_parts info2;have Hi : Hid (Tryz.prog.info? 2 = some i0 /\ i0.zero = some (.int .i64 0) /\ i0.size = 1 /\ i0.bytes = 8) := ⟨hi, hz0, hz1, hz2⟩;obtain ⟨nn, hnn⟩ : ∃ n, m.ml = n := ⟨_, rfl⟩;rw [hnn];have Hnn := J03 hnn;clear hp hok hn64 hml hlen hpos hm6 hcl hall hble hinv hm hfuel hL hcap hs hsok hfit hwd hi hz0 hz1 hz2 hnn;have hmk := run_make_row' (P := Tryz.prog) 65 2 (.int .i64 0) 8 Tryz.underlying65 info2 rfl .i64 .i64 10 (by decide) (by decide)
 push_cast at hmk
 obtain ⟨W3, hW3⟩ : ∃ W3, (((w.alloc (.cells #[.slice ra p.rl rc, .slice (some ⟨cb, co, none⟩) p.cl cc] 25)).alloc (.cells #[.int .i64 0, .int .i64 0, .int .i64 0, .slice none 0 0, .slice none 0 0] 42)).alloc (.cells #[.slice (some ⟨w.heap.size + 1 + 1 + 1, 0, none⟩) 10 10, .slice none 0 0, .slice none 0 0, .int .i64 0, .slice ra p.rl rc, .slice (some ⟨cb, co, none⟩) p.cl cc, .int .i64 0, .int .i64 0, .int .i64 0, .slice none 0 0, .slice none 0 0, .slice sa sn sc, .bool false, .int .i64 0, .slice none 0 0, .slice none 0 0, .slice none 0 0, .int .i64 0] 76)).alloc (.cells (madeCells #[.int .i64 0] 10) 2) = W3 := ⟨_, rfl⟩;obtain ⟨G, hG⟩ : ∃ G, w.heap.size + 1 + 1 = G := ⟨_, rfl⟩;obtain ⟨y0, hy0⟩ : ∃ y : Ys, y = ⟨.slice ra p.rl rc, .slice (some ⟨cb, co, none⟩) p.cl cc, .slice none 0 0, 0, 0, 0⟩ := ⟨_, rfl⟩;obtain ⟨g0, hg0⟩ : ∃ g0 : Nat -> Value, g0 = gV 0 y0 ⟨⟨0, fun _ => 0, flatM m, fun _ => []⟩, false, 0, ⟨0, fun _ => 0, flatM m, fun _ => []⟩, L, []⟩ ⟨.slice none 0 0, .slice sa sn sc, .slice none 0 0, .slice none 0 0, .slice none 0 0, .int .i64 0, ⟨G + 1, 10, 0, none, 0, 0, none, 0, fun _ => .slice none 0 0⟩, ⟨0, 0, 0, none, 0, 0, none, 0, fun _ => .slice none 0 0⟩, fun _ => 0⟩ := ⟨_, rfl⟩
 have HW : Hid (More w W3 /\ W3.heap.size = G + 2 /\ (W3.cell? ⟨w.heap.size, 0, none⟩ = some (.slice ra p.rl rc) /\ W3.cell? ⟨w.heap.size, 1, none⟩ = some (.slice (some ⟨cb, co, none⟩) p.cl cc)) /\
   (Wr W3 (w.heap.size + 1) 0 (.int .i64 0) /\ Wr W3 (w.heap.size + 1) 1 (.int .i64 0) /\ Wr W3 (w.heap.size + 1) 2 (.int .i64 0) /\ Wr W3 (w.heap.size + 1) 3 (.slice none 0 0) /\ Wr W3 (w.heap.size + 1) 4 (.slice none 0 0)) /\
   (∀ j, j < 18 -> Wr W3 G j (g0 j)) /\ RegsR W3 (G + 1) (fun _ => 0)) := by
  rw [hg0, hy0];exact Jhj w ra p.rl rc (some ⟨cb, co, none⟩) p.cl cc sa sn sc (flatM m) L G hG W3 hW3.symm
 have HG := J03 (And.intro hG (And.intro hg0 hy0));have HW3 := J03 hW3;clear hW3 hg0 hy0 hG;go_enter Tryz.func10, Tryz.ntmps10;go_wp2;rw [HW3.out];rw [HG.out.1];clear hmk;go_loopg [10] nn (fun g i wr => ∃ (k : Nat) (v : Value), k + g = nn /\ i = .int .i64 k /\ wr.ownsRow (G + 2) 2 1 v (baseN m.len k) ((List.range (baseN m.len k)).map fun j => .int .i64 (flatM m j)) /\ W3.grownBy wr (some G) /\ Wr wr G 1 v /\ ∀ j, j < 18 -> j ≠ 1 -> Wr wr G j (g0 j))
 case atStart =>
  obtain ⟨_, _, _, _, h1, _⟩ := HW.out;refine ⟨0, .slice none 0 0, by omega, rfl, World.ownsRow_nil _ _ _ _, J0j _ _, ?_, fun j hj _ => h1 j hj⟩;have := h1 1 (by omega);rw [HG.out.2.1] at this;exact this
 case round =>
  obtain ⟨k, v, hkg, rfl, hown, hgr, hv, hcs⟩ := hrel;obtain ⟨va, vc, rfl⟩ := J27 hown;have Hm := J03 (And.intro hown (And.intro hgr (And.intro hv hcs)));clear hown hgr hv hcs;cases gk with
  | zero =>
   obtain rfl : k = nn := by omega
   obtain ⟨N, hN⟩ : ∃ N, baseN m.len k = N := ⟨_, rfl⟩;rw [hN] at Hm;have HN : Hid (N <= 384 /\ baseN m.len m.ml = N) := ⟨by rw [<- hN]; exact H0.out.2.2.2.2.2.2.2.2.2.1 k (by rw [Hnn.out]; exact Nat.le_refl _), by rw [Hnn.out]; exact hN⟩;have hmk := run_make_row' (P := Tryz.prog) 26 65 (.slice none 0 0) 24 Tryz.underlying26 Jl4 rfl .i64 .i64 N (by have := HN.out.1; omega) (by have := HN.out.1; omega);have v1 := Hm.out.2.2.1.1;have v2 := (Hm.out.2.2.2 2 (by omega) (by omega)).1;have f2 := (Hm.out.2.2.2 2 (by omega) (by omega)).2;have hn0 : (0 : Int) <= (N : Int) := by omega
   have hGl : G < wr.heap.size := J05 v1;clear hN;rw [HG.out.2.1] at v2;dsimp only [gV, PV.past] at v2;go_wp2;obtain ⟨W7, hW7⟩ : ∃ W7, (wr.setCell ⟨G, 2, none⟩ (.slice (some ⟨wr.heap.size, 0, none⟩) N N)).alloc (.cells (madeCells #[.slice none 0 0] N) 65) = W7 := ⟨_, rfl⟩;rw [hW7];have HW7 := J03 hW7;clear hW7;have hsz := HW.out.2.1;have hgs := J0q wr G 2 (.slice (some ⟨wr.heap.size, 0, none⟩) N N)
   have b7 : Below G W3 W7 := by
    rw [<- HW7.out];exact J4o (J0a (Below.grown (Below.refl _ _) Hm.out.2.1 (by omega) (fun b hb => by have := Option.some.inj hb; omega)) _ _) (by have := hgs.size; omega) _
   have kw : ∀ b o u, b ≠ G -> Wr wr b o u -> Wr W7 b o u := fun b o u hb h => by rw [<- HW7.out]; exact (h.kept hgs (fun e => hb (Option.some.inj e))).kept (World.grownBy_alloc _ _ none) (by simp)
   have kg : ∀ o u, o ≠ 2 -> Wr wr G o u -> Wr W7 G o u := fun o u ho h => by rw [<- HW7.out]; exact (h.other _ _ _ (by omega)).kept (World.grownBy_alloc _ _ none) (by simp)
   have hszr : G + 2 <= wr.heap.size := by have := Hm.out.2.1.size; omega
   have hrs : ∃ z, RS W7 G N y0 ⟨⟨0, fun _ => 0, flatM m, fun _ => []⟩, false, 0, ⟨0, fun _ => 0, flatM m, fun _ => []⟩, L, []⟩ [] z := by
    refine ⟨_, RS.begin (rg := G + 1) (pg := wr.heap.size) (pc := N) (sc := .slice sa sn sc) (wa := va) (wc := vc) HN.out.1 (by omega) (fun j hj => ?_) ?_ ?_ (fun b hb => (World.ownsRow.lt Hm.out.1 b hb).2) (by omega) (fun j hj => ?_) ?_ rfl ?_⟩
    ·exact kw _ _ _ (by omega) (Wr.kept Hm.out.2.1 (HW.out.2.2.2.2.2 j hj) (fun e => by have := Option.some.inj e; omega))
    ·refine ⟨sa, sc, by rw [HS.out.2.1], by rw [HS.out.2.1]; exact HS.out.2.2.1, fun hne => ?_⟩
     have hpos : 0 < L.length := List.length_pos_iff.2 hne;have hc0 := HS.out.2.2.2.1.cells 0 (L[0]) (List.getElem?_eq_getElem hpos);have hlt := J05 hc0;dsimp only at hlt;have hG1 := HG.out.1;refine ⟨sb, so, HS.out.2.2.2.1.ha hpos, by omega, fun j c hj => ?_⟩;rw [Below.cell b7 (by dsimp only; omega)];exact HW.out.1.cell (HS.out.2.2.2.1.cells j c hj)
    ·rw [<- HW7.out]
     refine World.ownsRow.kept (World.ownsRow.kept Hm.out.1 hgs ?_) (World.grownBy_alloc _ _ none) ?_
     ·cases hv : (Value.slice va N vc).ownBlock with
      | none => left; rfl
      | some b => right; have := (World.ownsRow.lt Hm.out.1 b hv).1; simp; omega
     ·cases (Value.slice va N vc).ownBlock with
      | none => left; rfl
      | some b => right; simp
    ·rw [<- HW7.out]
     have hj2 := Jgu j N hj;exact ⟨by go_simp, by go_simp⟩
    ·rw [<- HW7.out]; simp
    ·intro j hj
     by_cases e1 : j = 1
     ·subst e1
      exact kg _ _ (by omega) Hm.out.2.2.1
     by_cases e2 : j = 2
     ·subst e2
      rw [<- HW7.out];exact ((Hm.out.2.2.2 2 (by omega) (by omega)).same _).kept (World.grownBy_alloc _ _ none) (by simp)
     ·have h1 := kg _ _ e2 (Hm.out.2.2.2 j hj e1)
      have eq : g0 j = gV N y0 ⟨⟨0, fun _ => 0, flatM m, fun _ => []⟩, false, 0, ⟨0, fun _ => 0, flatM m, fun _ => []⟩, L, []⟩ ⟨.slice none 0 0, .slice sa sn sc, .slice none 0 0, .slice none 0 0, .slice none 0 0, .int .i64 0, ⟨G + 1, 10, wgOf va, va, vc, wr.heap.size, some ⟨wr.heap.size, 0, none⟩, N, fun _ => .slice none 0 0⟩, ⟨0, 0, 0, none, 0, 0, none, 0, fun _ => .slice none 0 0⟩, fun c => if c = G + 1 then 1 else if 0 < N /\ (Value.slice va N vc).ownBlock = some c then 2 else if c = wr.heap.size then 3 else 0⟩ j := by
       rw [HG.out.2.1]
       revert j
       refine lt18 ?_ ?_ ?_ ?_ ?_ ?_ ?_ ?_ ?_ ?_ ?_ ?_ ?_ ?_ ?_ ?_ ?_ ?_ <;> intros <;> first | rfl | omega
      rw [<- eq];exact h1
   have Hrs : Hid (R4 W7 G N y0 ⟨⟨0, fun _ => 0, flatM m, fun _ => []⟩, false, 0, ⟨0, fun _ => 0, flatM m, fun _ => []⟩, L, []⟩ []) := ⟨HN.out.1, hrs⟩;have H7 : Hid (Below G W3 W7 /\ W3.heap.size = G + 2 /\ w.heap.size + 1 + 1 = G) := ⟨b7, hsz, HG.out.1⟩;clear hgs b7 kw kg hszr hrs hsz v1 v2 f2 hmk hn0 hGl Hm
   have hRP : ∀ wx, Below G W3 wx -> ∀ y : Ys, y.rv = y0.rv -> y.cv = y0.cv -> RP wx G N p ⟨ra, rb, ro, rc, some ⟨cb, co, none⟩, cb, co, cc⟩ y := fun wx hb y e1 e2 => by
    have hlt : 0 < p.rl -> rb < w.heap.size := fun h0 => J05 (H0.out.1.regs 0 h0).1
    refine ⟨by rw [e1, HG.out.2.2], by rw [e2, HG.out.2.2], H0.out.1.hr, fun i hi => ⟨?_, ?_⟩, fun h0 => by have := hlt h0; have := HG.out.1; dsimp only; omega, H0.out.2.1.1, by rw [H0.out.2.2.2.2.2.2.2.2.1, HN.out.2]⟩
    ·rw [Below.cell hb (by have := hlt (by omega); have := HG.out.1; dsimp only; omega)]; exact HW.out.1.cell (H0.out.1.regs i hi).1
    ·rw [Below.cell hb (by have := hlt (by omega); have := HG.out.1; dsimp only; omega)]; exact HW.out.1.cell (H0.out.1.regs i hi).2
   have HRP := J03 hRP;clear hRP;apply Jj0
   ·intro key
    go_loopg [] (2 * fuel) (fun g wr => ∃ (y : Ys) (s : Sp), R4 wr G N y s [] /\ (y.rv = y0.rv /\ y.cv = y0.cv /\ y.mv = .slice none 0 0) /\ Below G W3 wr /\ ((y.e = 0 /\ y.v = 0 /\ ∃ g' k : Nat, y.k = k /\ k + g' = fuel /\ InvS p k (4 * k + (if s.ahead = true then 0 else 1)) s /\ runS p g' k s = R /\ g = 2 * g' + (if s.ahead = true then 1 else 0) /\ (s.ahead = true -> 0 <= s.since /\ s.since <= 11)) \/ (¬ y.e = 0 /\ R = ⟨y.e, y.v, y.k, s.seen, s.real.wd⟩ /\ s.seen.length <= 200000 /\ s.ahead = false)))
    case atStart =>
     refine ⟨y0, _, Hrs.out, ⟨rfl, rfl, by rw [HG.out.2.2]⟩, H7.out.1, .inl ⟨by rw [HG.out.2.2], by rw [HG.out.2.2], fuel, 0, by rw [HG.out.2.2]; rfl, by omega, H0.out.2.2.2.2.2.2.2.2.2.2.mono (Nat.le_refl _) (by omega), HR.out, ?_, fun h => absurd h (by simp)⟩⟩;rw [if_neg (by simp)]
     rfl
    case round =>
     obtain ⟨y, s, hr4, hy, hbel, hst⟩ := hrel;have Hs := J03 (And.intro hr4 (And.intro hy hbel));obtain ⟨c8, f8⟩ := hr4.k;have c6 := hr4.e.1;have c12 := hr4.ahead.1;obtain ⟨w6, hw6⟩ : ∃ w6, wr = w6 := ⟨_, rfl⟩;subst hw6;clear hr4 hy hbel;rcases hst with ⟨he, hv, g', k, hyk, hkg, hinv, hrun, hgk, hsin⟩ | ⟨he, hR, hsl, haf⟩
     ·cases g' with
      | zero =>
       have hk : ¬ y.k < (fuel : Int) := by omega
       have HE : Hid (R4 wr G N y s [] /\ Below G W3 wr /\ R = ⟨y.e, y.v, y.k, s.seen, s.real.wd⟩ /\ s.seen.length <= 200000 /\ y.mv = .slice none 0 0) := ⟨Hs.out.1, Hs.out.2.2, by rw [<- hrun, he, hv, hyk]; rfl, by have h1 := hinv.seen; have h2 := HS.out.1; split at h1 <;> omega, Hs.out.2.1.2.2⟩;clear hinv hrun hgk hyk hkg he hv f8 hsin;cases ha : s.ahead with
       | false =>
        rw [ha] at c12;go_wp2;obtain ⟨W8, hW8⟩ : ∃ W8, wr = W8 := ⟨_, rfl⟩;rw [hW8];obtain ⟨sv, wa, wc, wg, hts⟩ := HE.out.1.here ha;rw [hW8] at hts HE;have TSH := J03 hts;have HT := J03 HE.out.2;clear hts hW8 c6 c8 c12 hk;refine J5d J1v (by kernel_rfl) (fun f => ?_);simp only [J1v, List.foldl]
        go_simp
        rename_i K a;clear HE ha Hs
        revert y s K a W8 sv wa wc wg TSH HT f
        exact key.out
       | true =>
        rw [ha] at c12;obtain ⟨hN_, z, hz⟩ := HE.out.1.out;obtain ⟨c0, f0⟩ := hz.cells 0 (by omega);obtain ⟨c1, f1⟩ := hz.cells 1 (by omega);obtain ⟨c2, f2⟩ := hz.cells 2 (by omega);obtain ⟨c3, f3⟩ := hz.cells 3 (by omega);obtain ⟨c14, _⟩ := hz.cells 14 (by omega);obtain ⟨c15, _⟩ := hz.cells 15 (by omega);obtain ⟨c16, _⟩ := hz.cells 16 (by omega);obtain ⟨c17, _⟩ := hz.cells 17 (by omega);obtain ⟨sv, wa, wc, wg, hts⟩ := hz.there hN_ ha;obtain ⟨_, e0, e1, e2, e3⟩ := hz.rest.back ha;dsimp only [gV, PV.regs, PV.words, PV.past] at c0 c1 c2 c3 c14 c15 c16 c17 e0 e1 e2 e3;rw [e0] at c14;rw [e1] at c15;rw [e2] at c16;rw [e3] at c17;rw [e0, e1, e2, e3] at hts;obtain ⟨W8, hW8⟩ : ∃ W8, (((wr.setCell ⟨G, 0, none⟩ (.slice (some ⟨z.b.rg, 0, none⟩) 10 z.b.rc)).setCell ⟨G, 1, none⟩ (.slice z.b.wa N z.b.wc)).setCell ⟨G, 2, none⟩ (.slice z.b.pa N z.b.pc)).setCell ⟨G, 3, none⟩ (.int .i64 s.back.at_) = W8 := ⟨_, rfl⟩;rw [hW8] at hts;have TSH := J03 hts
        have HT : Hid (Below G W3 W8 /\ R = ⟨y.e, y.v, y.k, s.seen, s.real.wd⟩ /\ s.seen.length <= 200000 /\ y.mv = .slice none 0 0) := by
         refine ⟨?_, HE.out.2.2⟩;rw [<- hW8];exact J0a (J0a (J0a (J0a HE.out.2.1 _ _) _ _) _ _) _ _
        have HW8 := J03 hW8;clear hts hz hW8 e0 e1 e2 e3;go_wp2;rw [HW8.out];clear c0 c1 c2 c3 c14 c15 c16 c17 f0 f1 f2 f3 c6 c8 c12 hk;refine J5d J1v (by kernel_rfl) (fun f => ?_);simp only [J1v, List.foldl]
        go_simp
        rename_i K a;exact key.out y s K a W8 sv wa wc wg TSH HT f
      | succ g' =>
       have hk : y.k < (fuel : Int) := by omega
       have hB : w.heap.size < G := by have := HG.out.1; omega
       have hb1 : wr.cell? ⟨w.heap.size, 1, none⟩ = some (.slice (some ⟨cb, co, none⟩) p.cl cc) := by rw [Below.cell Hs.out.2.2 (by dsimp only; omega)]; exact HW.out.2.2.1.2
       have c3 := Hs.out.1.at_.1;obtain ⟨S, HS9⟩ := J4n wr;have j3 := J0x HS9 c3;have jb := J0x HS9 hb1;have hne := s_ne HS9;have hS := J4m HS9;have Hrun := J03 (And.intro he (And.intro hv (And.intro hyk (And.intro hkg (And.intro hinv (And.intro hrun hgk))))));have he0 := he;clear hv hyk hinv hrun hkg;rw [he] at c6;clear he;by_cases hcl : p.cl <= s.pl.at_
       ·have hcl' : (p.cl : Int) <= (s.pl.at_ : Int) := by omega
        cases ha : s.ahead with
        | false =>
         rw [ha] at c12;have f6 := Hs.out.1.e.2
         have HE : Hid (R4 (wr.setCell ⟨G, 6, none⟩ (.int .i64 2)).drew G N { y with e := 2 } s [] /\ Below G W3 (wr.setCell ⟨G, 6, none⟩ (.int .i64 2)).drew /\ R = ⟨2, y.v, y.k, s.seen, s.real.wd⟩ /\ s.seen.length <= 200000 /\ y.mv = .slice none 0 0) := by
          obtain ⟨h1, h2, h3, h4, h5, h6, h7⟩ := Hrun.out;exact ⟨(Hs.out.1.setE 2).drew, J0u (J0a Hs.out.2.2 _ _), by rw [<- h6, Jd3 hcl ha, h2, h3], by have q1 := h5.seen; have q2 := HS.out.1; split at q1 <;> omega, Hs.out.2.1.2.2⟩
         go_wp2_with (fail)
         refine J01 (S := S) [(0, true), (1, true), (2, true), (3, true), (4, true), (5, true), (6, true), (7, false), (8, true)] (by kernel_rfl) (by kernel_rfl) (by kernel_rfl) hS ?_
         iterate 7 (refine J00 rfl (by kernel_rfl) (fun K hK => ?_); go_simp; refine hK _ _ ?_; clear hK K)
         refine J02 rfl (by kernel_rfl) (fun K hK => ?_); go_simp;refine hK _ _ ((HS9.out _).2 (More.refl _).drew) ?_; clear hK K;refine J00 rfl (by kernel_rfl) (fun K hK => ?_); go_simp; refine hK _ _ ?_; clear hK K;refine J04 ?_;clear j3 jb hne hS HS9 S;go_wp2;obtain ⟨y2, hy2⟩ : ∃ y2 : Ys, ({ y with e := 2 } : Ys) = y2 := ⟨_, rfl⟩;have HE2 : Hid (R4 (wr.setCell ⟨G, 6, none⟩ (.int .i64 2)).drew G N y2 s [] /\ Below G W3 (wr.setCell ⟨G, 6, none⟩ (.int .i64 2)).drew /\ R = ⟨y2.e, y2.v, y2.k, s.seen, s.real.wd⟩ /\ s.seen.length <= 200000 /\ y2.mv = .slice none 0 0) := by rw [<- hy2]; exact HE.out
         clear HE hy2;have HE := HE2;clear HE2;obtain ⟨W8, hW8⟩ : ∃ W8, (wr.setCell ⟨G, 6, none⟩ (.int .i64 2)).drew = W8 := ⟨_, rfl⟩;rw [hW8];obtain ⟨sv, wa, wc, wg, hts⟩ := HE.out.1.here ha;rw [hW8] at hts HE;have TSH := J03 hts;have HT := J03 HE.out.2;clear hts hW8 c6 c8 c12 f6 f8;refine J5d J1v (by kernel_rfl) (fun f => ?_);simp only [J1v, List.foldl]
         go_simp
         rename_i K a;exact key.out y2 s K a W8 sv wa wc wg TSH HT f
        | true =>
         rw [ha] at c12;have HV := J03 (J7w wr.drew G N y s [] (by have q1 := Hrun.out.2.2.2.2.1.seen; have q2 := HS.out.1; have q3 := Hrun.out.2.2.2.1; split at q1 <;> omega) ha Hs.out.1.drew);go_wp2_with (fail)
         refine J01 (S := S) [(0, true), (1, true), (2, true), (3, true), (4, true), (5, true), (6, true), (7, false), (8, true)] (by kernel_rfl) (by kernel_rfl) (by kernel_rfl) hS ?_
         iterate 7 (refine J00 rfl (by kernel_rfl) (fun K hK => ?_); go_simp; refine hK _ _ ?_; clear hK K)
         refine J02 rfl (by kernel_rfl) (fun K hK => ?_); go_simp;refine hK _ _ ((HS9.out _).2 (More.refl _).drew) ?_; clear hK K;refine J00 rfl (by kernel_rfl) (fun K hK => ?_); go_simp; refine hK _ _ ?_; clear hK K;refine J04 ?_;clear j3 jb hne hS HS9 S;go_wp2_with (fail)
         refine HV.out.mono ?_;rintro e w9 ⟨rfl, r9, b9⟩;have H9 := J03 (And.intro r9 (Below.trans (J0u Hs.out.2.2) b9));clear r9 b9 HV;go_wp2;go_roundg (2 * (g' + 1))
         case measure => rw [ha, if_pos rfl] at hgk; omega
         case rel =>
          obtain ⟨h1, h2, h3, h4, h5, h6, h7⟩ := Hrun.out;rw [ha, if_pos rfl] at h5;exact ⟨y, s.returns, H9.out.1, Hs.out.2.1, H9.out.2, .inl ⟨h1, h2, g' + 1, k, h3, h4, h5.returns ha, by rw [<- Jf1 hcl ha]; exact h6, rfl, fun h => absurd h (by simp [Sp.returns])⟩⟩
       ·have hat : s.pl.at_ < p.cl := by omega
        have hat' : ¬ (p.cl : Int) <= (s.pl.at_ : Int) := by omega
        have hat2 : (s.pl.at_ : Int) < (p.cl : Int) := by omega
        have hat3 : (0 : Int) <= (s.pl.at_ : Int) := by omega
        have hk1 : wrap64 (y.k + 1) = y.k + 1 := by have h1 := Hrun.out.2.2.1; have h2 := Hrun.out.2.2.2.1; have h3 := HS.out.1; unfold wrap64; omega
        have hwr := J2b;have Hat := J03 (And.intro hat hsin);have h10 := ((Hs.out.1.setK (y.k + 1)).drew);have HV := J03 (Jel _ G N _ s [] 1 (s.pl.at_ : Int) 0 (by have q1 := Hrun.out.2.2.2.2.1.seen; have q2 := HS.out.1; have q3 := Hrun.out.2.2.2.1; split at q1 <;> omega) h10);have H10 := J03 (J0u (J0a Hs.out.2.2 8 (.int .i64 (y.k + 1))));obtain ⟨y1, hy1⟩ : ∃ y1 : Ys, ({ y with k := y.k + 1 } : Ys) = y1 := ⟨_, rfl⟩;rw [hy1] at HV;have Hy1 : Hid (y1.rv = y0.rv /\ y1.cv = y0.cv /\ y1.mv = .slice none 0 0 /\ y1.e = 0 /\ y1.v = 0 /\ y1.k = y.k + 1) := by rw [<- hy1]; exact ⟨Hs.out.2.1.1, Hs.out.2.1.2.1, Hs.out.2.1.2.2, Hrun.out.1, Hrun.out.2.1, rfl⟩
        clear h10 hy1 hat hsin hcl hgk he0;go_wp2_with (fail)
        refine J01 (S := S) [(0, true), (1, true), (2, true), (3, true), (4, true), (5, true), (6, true), (7, false), (8, true)] (by kernel_rfl) (by kernel_rfl) (by kernel_rfl) hS ?_
        iterate 7 (refine J00 rfl (by kernel_rfl) (fun K hK => ?_); go_simp; refine hK _ _ ?_; clear hK K)
        refine J02 rfl (by kernel_rfl) (fun K hK => ?_); go_simp;refine hK _ _ ((HS9.out _).2 (More.refl _).drew) ?_; clear hK K;refine J00 rfl (by kernel_rfl) (fun K hK => ?_); go_simp; refine hK _ _ ?_; clear hK K;refine J04 ?_;clear j3 jb hne hS HS9 S;go_wp2_with (fail)
        refine HV.out.mono ?_;rintro e w11 ⟨rfl, r11, b11⟩;have hb11 := Below.trans H10.out b11;have H11 := J03 (And.intro r11 hb11);clear HV H10 hb1 c3;have c3 := H11.out.1.at_.1;replace c3 : w11.cell? ⟨G, 3, none⟩ = some (.int .i64 (s.pl.at_ : Int)) := c3;have hcode := H0.out.1.code s.pl.at_ Hat.out.1;have hcb : cb < G := by have := J05 hcode.1; have := HG.out.1; dsimp only at *; omega
        obtain ⟨S, HSB⟩ : ∃ S : World -> Prop, Hid (∀ w', S w' ↔ Below G w11 w') := ⟨_, fun _ => Iff.rfl⟩;have jl : ∀ (b o : Nat) (u : Value), w11.cell? ⟨b, o, none⟩ = some u -> b < G -> ∀ i : { w' // S w' }, i.val.cell? ⟨b, o, none⟩ = some u := fun b o u h hb i => by rw [Below.cell ((HSB.out _).1 i.property) hb]; exact h
        have jw : ∀ (b o : Nat) (u : Value), W3.cell? ⟨b, o, none⟩ = some u -> b < G -> w11.cell? ⟨b, o, none⟩ = some u := fun b o u h hb => by rw [Below.cell hb11 hb]; exact h
        have jb := jl _ _ _ (jw _ _ _ HW.out.2.2.1.2 hB) hB;have n0 := jl _ _ _ (jw _ _ _ (HW.out.1.cell hcode.1) hcb) hcb;have n1 := jl _ _ _ (jw _ _ _ (HW.out.1.cell hcode.2.1) hcb) hcb;have n2 := jl _ _ _ (jw _ _ _ (HW.out.1.cell hcode.2.2.1) hcb) hcb;have n3 := jl _ _ _ (jw _ _ _ (HW.out.1.cell hcode.2.2.2.1) hcb) hcb;have n4 := jl _ _ _ (jw _ _ _ (HW.out.1.cell hcode.2.2.2.2) hcb) hcb;have hne : Nonempty { w' // S w' } := ⟨⟨w11, (HSB.out _).2 (Below.refl _ _)⟩⟩;have hS : S w11.drew := (HSB.out _).2 (J0u (Below.refl _ _));have HX := J03 (Jk6 p ⟨ra, rb, ro, rc, some ⟨cb, co, none⟩, cb, co, cc⟩ w11.drew G N y1 s [] k (4 * k + 1) H11.out.1.drew (HRP.out _ (J0u hb11) y1 Hy1.out.1 Hy1.out.2.1) (Hrun.out.2.2.2.2.1.mono (Nat.le_refl _) (by split <;> omega)) Hat.out.1 H0.out.2.2.2.2.2.2.2.1.2 (H0.out.2.1.2.2.2 _ Hat.out.1) (by have h2 := Hrun.out.2.2.2.1; have h3 := HS.out.1; omega) (by have h2 := Hrun.out.2.2.2.1; have h3 := HS.out.1; omega) Hy1.out.2.2.2.2.1);obtain ⟨i, hI⟩ : ∃ i, p.ins s.pl.at_ = i := ⟨_, rfl⟩;obtain ⟨iop, ia, ib, ic, in_⟩ := i;rw [hI] at n0 n1 n2 n3 n4 HX;have hi64 : B64 in_ := by have := H0.out.2.2.1 s.pl.at_ Hat.out.1; rw [hI] at this; exact this
        have HI := J03 (And.intro hI hi64);dsimp only at n0 n1 n2 n3 n4 HX;clear hcode hcb jl jw r11 b11 hb11 hI hi64;go_wp2_with (fail)
        refine J01 (S := S) [(0, true), (1, true), (2, true), (3, true), (4, true), (5, true), (6, true), (7, false), (8, true), (9, true), (10, false), (11, true)] (by kernel_rfl) (by kernel_rfl) (by kernel_rfl) hS ?_
        iterate 7 (refine J00 rfl (by kernel_rfl) (fun K hK => ?_); go_simp; refine hK _ _ ?_; clear hK K)
        refine J02 rfl (by kernel_rfl) (fun K hK => ?_); go_simp;refine hK _ _ hS ?_; clear hK K
        iterate 2 (refine J00 rfl (by kernel_rfl) (fun K hK => ?_); go_simp; refine hK _ _ ?_; clear hK K)
        refine J02 rfl (by kernel_rfl) (fun K hK => ?_); go_simp;refine HX.out.mono ?_;rintro e w12 ⟨rfl, b12, r12⟩
        go_simp
        refine hK _ _ ((HSB.out _).2 (Below.trans (J0u (Below.refl _ _)) b12)) ?_; clear hK K;refine J00 rfl (by kernel_rfl) (fun K hK => ?_); go_simp; refine hK _ _ ?_; clear hK K;refine J04 ?_;have hinv2 := (Hrun.out.2.2.2.2.1.mono (k' := k) (n' := 4 * k + 1) (Nat.le_refl _) (by split <;> omega)).step Hat.out.1 (H0.out.2.1.2.2.2 _ Hat.out.1) (H0.out.2.2.1 _ Hat.out.1);have hsi := Jay p s;have hru : runS p (g' + 1) k s = R := Hrun.out.2.2.2.2.2.1;have H12 := J03 (And.intro r12 (And.intro (Below.trans (J0u H11.out.2) b12) (And.intro hinv2 hsi)));clear jb n0 n1 n2 n3 n4 hne hS HSB S HX b12 r12 hinv2 hsi c3 c8 f8 c6 c12;cases ho : (stepS p s).2.2 with
        | some e =>
         have ha := Jd7 ho;have hs1 := J9u ho;have hef := Jf8 ho;have HR2 : Hid (R = ⟨e.1, e.2, (k : Int) + 1, (stepS p s).1.seen, (stepS p s).1.real.wd⟩) := by rw [<- hru]; exact Jhv Hat.out.1 ho
         have c12 := H12.out.1.ahead.1;rw [hs1] at c12;replace c12 : w12.cell? ⟨G, 12, none⟩ = some (.bool s.ahead) := c12;rw [ha] at c12;have Ho := J03 (And.intro ho hef);clear hru hs1 hef ho;go_wp2;go_roundg 0
         case measure => have := Hrun.out.2.2.2.2.2.2; split at this <;> omega
         case rel =>
          obtain ⟨r12, b12, i12, _⟩ := H12.out;rw [Ho.out.1] at r12;refine ⟨_, _, r12, ⟨Hy1.out.1, Hy1.out.2.1, Hy1.out.2.2.1⟩, b12, .inr ⟨?_, ?_, ?_, ?_⟩⟩
          ·show ¬ e.1 = 0
           have := Ho.out.2;omega
          ·rw [HR2.out]
           show _ = (⟨e.1, e.2, y1.k, _, _⟩ : ShF);rw [Hy1.out.2.2.2.2.2, Hrun.out.2.2.1]
          ·have h1 := i12.seen
           have h2 := Hrun.out.2.2.2.1;have h3 := HS.out.1;omega
          ·rw [J9u Ho.out.1]
           exact ha
        | none =>
         obtain ⟨s2, hs2⟩ : ∃ s2, (stepS p s).1 = s2 := ⟨_, rfl⟩;obtain ⟨ov, hov⟩ : ∃ ov, (stepS p s).2.1 = ov := ⟨_, rfl⟩;have HR2 : Hid (runS p g' (k + 1) (s2.after ov) = R) := by rw [<- hru, <- hs2, <- hov]; exact (Jk9 Hat.out.1 ho).symm
         rw [ho, hs2] at H12;replace H12 : Hid (R4 w12 G N y1 s2 [] /\ Below G W3 w12 /\ InvS p (k + 1) (4 * k + 1 + 2) s2 /\ ((s2.ahead = s.ahead /\ s2.since = s.since) \/ (s.ahead = false /\ s2.since = -1))) := H12;rw [hov];have c12 := H12.out.1.ahead.1;have Hk2 : Hid (∀ g2, g2 = 2 * g' + (if (s2.after ov).ahead = true then 1 else 0) -> True) := fun _ _ => trivial
         clear hru hs2 hov ho;cases ha : s2.ahead with
         | false =>
          rw [ha] at c12;have Ha := J03 ha;go_wp2;go_roundg (2 * g')
          case measure => have := Hrun.out.2.2.2.2.2.2; split at this <;> omega
          case rel =>
           obtain ⟨r12, b12, i12, _⟩ := H12.out;have hr := HR2.out;rw [Jc6 Ha.out] at hr;exact ⟨y1, s2, r12, ⟨Hy1.out.1, Hy1.out.2.1, Hy1.out.2.2.1⟩, b12, .inl ⟨Hy1.out.2.2.2.1, Hy1.out.2.2.2.2.1, g', k + 1, by rw [Hy1.out.2.2.2.2.2, Hrun.out.2.2.1]; push_cast; rfl, by have := Hrun.out.2.2.2.1; omega, i12.mono (Nat.le_refl _) (by omega), hr, by rw [Ha.out]; rfl, fun h => absurd (h.symm.trans Ha.out) (by simp)⟩⟩
         | true =>
          rw [ha] at c12;obtain ⟨c13, f13⟩ := H12.out.1.since
          have hsb : -1 <= s2.since /\ s2.since <= 11 := by
           rcases H12.out.2.2.2 with ⟨h1, h2⟩ | ⟨h1, h2⟩
           ·have := Hat.out.2 (by rw [<- h1]; exact ha)
            omega
           ·omega
          have h13 := H12.out.1.setSince (s2.since + 1);have Ha := J03 (And.intro ha hsb);have hi4 := H12.out.2.2.1.after ov;have Hi4 := J03 hi4;obtain ⟨q, hq⟩ : ∃ q, s2.since + 1 = q := ⟨_, rfl⟩;rw [hq] at h13;have hsw : wrap64 (s2.since + 1) = q := by unfold wrap64; omega
          have Hq := J03 hq;have hlen2 : s2.seen.length <= 200000 := by have h1 := H12.out.2.2.1.seen; have h2 := Hrun.out.2.2.2.1; have h3 := HS.out.1; omega
          have H13 := J03 (And.intro h13 (J0a H12.out.2.1 13 (.int .i64 q)));by_cases hret : ov = true \/ q = 12
          ·have HV := J03 (J7w _ G N y1 { s2 with since := q } [] hlen2 ha h13)
           have HA := J03 (show s2.after ov = ({ s2 with since := q }).returns by unfold Sp.after; rw [if_pos Ha.out.1, Hq.out, if_pos hret]);clear h13 hi4 hq hlen2 hsb ha
           have hmain : ∀ w14, R4 w14 G N y1 ({ s2 with since := q }).returns [] -> Below G (w12.setCell ⟨G, 13, none⟩ (.int .i64 q)) w14 -> ∃ (y : Ys) (s : Sp), R4 w14 G N y s [] /\ (y.rv = y0.rv /\ y.cv = y0.cv /\ y.mv = .slice none 0 0) /\ Below G W3 w14 /\ ((y.e = 0 /\ y.v = 0 /\ ∃ g'' k : Nat, y.k = k /\ k + g'' = fuel /\ InvS p k (4 * k + (if s.ahead = true then 0 else 1)) s /\ runS p g'' k s = R /\ 2 * g' = 2 * g'' + (if s.ahead = true then 1 else 0) /\ (s.ahead = true -> 0 <= s.since /\ s.since <= 11)) \/ (¬ y.e = 0 /\ R = ⟨y.e, y.v, y.k, s.seen, s.real.wd⟩ /\ s.seen.length <= 200000 /\ s.ahead = false)) := fun w14 r14 b14 => by
            have hr := HR2.out;have hi := Hi4.out;rw [HA.out] at hr hi;exact ⟨y1, _, r14, ⟨Hy1.out.1, Hy1.out.2.1, Hy1.out.2.2.1⟩, Below.trans H13.out.2 b14, .inl ⟨Hy1.out.2.2.2.1, Hy1.out.2.2.2.2.1, g', k + 1, by rw [Hy1.out.2.2.2.2.2, Hrun.out.2.2.1]; push_cast; rfl, by have := Hrun.out.2.2.2.1; omega, hi.mono (Nat.le_refl _) (by omega), hr, rfl, fun h => absurd h (by simp [Sp.returns])⟩⟩
           have Hmain := J03 hmain;clear hmain;cases ov with
           | true =>
            clear hret;go_wp2_with (fail)
            refine HV.out.mono ?_;rintro e w14 ⟨rfl, r14, b14⟩;have H14 := J03 (And.intro r14 b14);clear r14 b14 HV;go_wp2;go_roundg (2 * g')
            case measure => have := Hrun.out.2.2.2.2.2.2; split at this <;> omega
            case rel => exact Hmain.out _ H14.out.1 H14.out.2
           | false =>
            have hq12 : q = 12 := hret.resolve_left (by simp);clear hret;subst hq12;go_wp2_with (fail)
            refine HV.out.mono ?_;rintro e w14 ⟨rfl, r14, b14⟩;have H14 := J03 (And.intro r14 b14);clear r14 b14 HV;go_wp2;go_roundg (2 * g')
            case measure => have := Hrun.out.2.2.2.2.2.2; split at this <;> omega
            case rel => exact Hmain.out _ H14.out.1 H14.out.2
          ·have hov : ov = false := by
            cases ov with
            | false => rfl
            | true => exact absurd (.inl rfl) hret
           have hq12 : ¬ q = 12 := fun e => hret (.inr e)
           have HA := J03 (show s2.after ov = { s2 with since := q } by unfold Sp.after; rw [if_pos Ha.out.1, Hq.out, if_neg hret]);have Hq12 := J03 hq12;subst hov;clear h13 hi4 hq hlen2 hsb ha hret;go_wp2;go_roundg (2 * g' + 1)
           case measure => have := Hrun.out.2.2.2.2.2.2; split at this <;> omega
           case rel =>
            have hr := HR2.out;have hi := Hi4.out;rw [HA.out] at hr hi;refine ⟨y1, _, H13.out.1, ⟨Hy1.out.1, Hy1.out.2.1, Hy1.out.2.2.1⟩, H13.out.2, .inl ⟨Hy1.out.2.2.2.1, Hy1.out.2.2.2.2.1, g', k + 1, by rw [Hy1.out.2.2.2.2.2, Hrun.out.2.2.1]; push_cast; rfl, by have := Hrun.out.2.2.2.1; omega, hi.mono (Nat.le_refl _) (by split <;> omega), hr, ?_, fun _ => ?_⟩⟩
            ·show _ = 2 * g' + (if s2.ahead = true then 1 else 0)
             rw [if_pos Ha.out.1]
            ·have h1 := Ha.out.2
             have h2 := Hq.out;have h3 := Hq12.out;show 0 <= q /\ q <= 11;omega
     ·have HE : Hid (R4 wr G N y s [] /\ Below G W3 wr /\ R = ⟨y.e, y.v, y.k, s.seen, s.real.wd⟩ /\ s.seen.length <= 200000 /\ y.mv = .slice none 0 0) := ⟨Hs.out.1, Hs.out.2.2, hR, hsl, Hs.out.2.1.2.2⟩
      rw [haf] at c12;clear hR;have he' : (y.e == 0) = false := by simp [he]
      by_cases hk : y.k < (fuel : Int)
      ·go_wp2
       obtain ⟨W8, hW8⟩ : ∃ W8, wr = W8 := ⟨_, rfl⟩;rw [hW8];obtain ⟨sv, wa, wc, wg, hts⟩ := HE.out.1.here haf;rw [hW8] at hts HE;have TSH := J03 hts;have HT := J03 HE.out.2;clear hts hW8 c6 c8 c12 hk;refine J5d J1v (by kernel_rfl) (fun f => ?_);simp only [J1v, List.foldl]
       go_simp
       rename_i K a;exact key.out y s K a W8 sv wa wc wg TSH HT f
      ·go_wp2
       obtain ⟨W8, hW8⟩ : ∃ W8, wr = W8 := ⟨_, rfl⟩;rw [hW8];obtain ⟨sv, wa, wc, wg, hts⟩ := HE.out.1.here haf;rw [hW8] at hts HE;have TSH := J03 hts;have HT := J03 HE.out.2;clear hts hW8 c6 c8 c12 hk;refine J5d J1v (by kernel_rfl) (fun f => ?_);simp only [J1v, List.foldl]
       go_simp
       rename_i K a;exact key.out y s K a W8 sv wa wc wg TSH HT f
   ·intro y s K a W8 sv wa wc wg TSH HT f
    have hB : w.heap.size < G := by have := HG.out.1; omega
    go_loopg [12] p.rl (fun g i wr => ∃ (k : Nat) (v : Value) (G' C' : Nat -> Nat), k + g = p.rl /\ i = .int .i64 k /\ CpAt wr W8.heap.size ⟨p.rl, m.len, fun j i => s.real.wd (baseN m.len j + i)⟩ k v G' C' /\ W8.grownBy wr (some G) /\ Wr wr G 10 v /\ ∀ j u, j ≠ 10 -> Wr W8 G j u -> Wr wr G j u)
    case atStart =>
     refine ⟨0, .slice none 0 0, _, _, by omega, rfl, CpAt.start _ _ _, J0j _ _, ?_, fun j u _ h => h⟩;have := TSH.out.mv;rw [HT.out.2.2.2] at this;exact this
    case round =>
     obtain ⟨k3, v3, G3, C3, hkg3, rfl, hc3, hg3, hv3, hj3⟩ := hrel;obtain ⟨xa, xc, rfl⟩ := J27 hc3.own;have hGl8 : G < W8.heap.size := J05 TSH.out.words.1;have hb3 : Below G W3 wr := Below.grown HT.out.1 hg3 (Nat.le_of_lt hGl8) (fun b hb => by have := Option.some.inj hb; omega);have Hm3 := J03 (And.intro hc3 (And.intro hg3 (And.intro hv3 (And.intro hj3 hb3))));have x0 : wr.cell? ⟨w.heap.size, 0, none⟩ = some (.slice ra p.rl rc) := by rw [Below.cell hb3 hB]; exact HW.out.2.2.1.1
     have x1 : wr.cell? ⟨w.heap.size, 1, none⟩ = some (.slice (some ⟨cb, co, none⟩) p.cl cc) := by rw [Below.cell hb3 hB]; exact HW.out.2.2.1.2
     clear hc3 hg3 hv3 hj3 hb3;cases gk with
     | zero =>
      obtain rfl : k3 = p.rl := by omega
      obtain ⟨q6, _⟩ := Hm3.out.2.2.2.1 6 _ (by omega) TSH.out.e;obtain ⟨q7, _⟩ := Hm3.out.2.2.2.1 7 _ (by omega) TSH.out.v;obtain ⟨q8, _⟩ := Hm3.out.2.2.2.1 8 _ (by omega) TSH.out.k;obtain ⟨q9, _⟩ := Hm3.out.2.2.2.1 9 _ (by omega) TSH.out.csv;obtain ⟨q10, _⟩ := Hm3.out.2.2.1;obtain ⟨sva, svc, hsv⟩ := J27 TSH.out.seen;subst hsv;have l1 : w.heap.size + 1 < G := by have := HG.out.1; omega
      have KR : ∀ o u, Wr W3 (w.heap.size + 1) o u -> Wr wr (w.heap.size + 1) o u := fun o u h => ⟨by rw [Below.cell Hm3.out.2.2.2.2 l1]; exact h.1, by rw [Below.frozen Hm3.out.2.2.2.2 l1]; exact h.2⟩
      obtain ⟨⟨r0, r0'⟩, ⟨r1, r1'⟩, ⟨r2, r2'⟩, ⟨r3, r3'⟩, ⟨r4, r4'⟩⟩ : Wr wr (w.heap.size + 1) 0 _ /\ Wr wr (w.heap.size + 1) 1 _ /\ Wr wr (w.heap.size + 1) 2 _ /\ Wr wr (w.heap.size + 1) 3 _ /\ Wr wr (w.heap.size + 1) 4 _ := ⟨KR _ _ HW.out.2.2.2.1.1, KR _ _ HW.out.2.2.2.1.2.1, KR _ _ HW.out.2.2.2.1.2.2.1, KR _ _ HW.out.2.2.2.1.2.2.2.1, KR _ _ HW.out.2.2.2.1.2.2.2.2⟩;have n3 : ¬ w.heap.size + 1 = G := by omega
      have n3' : ¬ G = w.heap.size + 1 := by omega
      clear KR;go_wp2
      try simp only [Exit.inBlock, Exit.then]
      refine bodyPost_ret (v := .agg #[.int .i64 y.e, .int .i64 y.v, .int .i64 y.k, .slice sva s.seen.length svc, .slice xa p.rl xc]) (by simp [results, Tryz.results10, go_sem, *]) rfl ?_;have hgf := J10 (J10 (J10 (J10 (J10 (J0j wr (some (w.heap.size + 1))) 0 (.int .i64 y.e)) 1 (.int .i64 y.v)) 2 (.int .i64 y.k)) 3 (.slice sva s.seen.length svc)) 4 (.slice xa p.rl xc);rw [HP.out];obtain ⟨hbel, hR, hsl, _⟩ := HT.out;obtain ⟨hc, hg, _, _, hb3⟩ := Hm3.out;have hcf := hc.kept hgf (by omega);obtain ⟨mb_, mc_, hmo⟩ := hcf.own_;obtain ⟨lm, hv, hin⟩ := hmo.in_ (by show p.rl < _; have := H0.out.2.1.1.1; omega) (fun i hi => by have := (H0.out.2.2.2.2.2.1 i (by have := H0.out.2.2.2.1; dsimp only at hi; omega)).2; show m.len i < _; omega);have hmore : More w wr := Below.trans HW.out.1 (Below.mono hb3 (by omega));rw [hR];refine ⟨_, ⟨p.rl, m.len, fun j i => s.real.wd (baseN m.len j + i)⟩, rfl, ⟨.slice sva s.seen.length svc, lm, by dsimp only; rw [<- hv], ?_, hin⟩, H0.out.2.2.2.1.symm, fun _ => rfl, fun _ _ _ _ => rfl, hmore.grownBy hgf (fun b hb => by have := Option.some.inj hb; omega)⟩;have hso := (TSH.out.seen.kept hg (fun b hb => by have := Option.some.inj hb; omega)).kept hgf (fun b hb => by have := Option.some.inj hb; omega);exact hso.at_ (by omega)
     | succ g3 =>
      have hk3 : k3 < p.rl := by omega
      have hk3' : (k3 : Int) < (p.rl : Int) := by omega
      have hk30 : (0 : Int) <= (k3 : Int) := by omega
      have hkm : k3 < m.ml := by have := H0.out.2.2.2.1; omega
      have hra : ra = some ⟨rb, ro, none⟩ := H0.out.1.hr (by show 0 < p.rl; omega);subst hra;have hrp := HRP.out wr Hm3.out.2.2.2.2 y0 rfl rfl;have HX := J03 (Jbt (some ⟨rb, ro, none⟩) p.rl rc (some ⟨cb, co, none⟩) p.cl cc k3 rb ro p.log p.sec wr hk30 hk3' (fun _ => rfl) hrp.regs hrp.ok);rw [Int.toNat_natCast, <- J83 p m H0.out.2.2.2.2.1 k3 (Nat.le_of_lt hkm)] at HX;have Hlog : Hid (0 <= p.log k3 /\ p.log k3 <= 6) := hrp.ok.2 k3 hk3;have hwk := H0.out.2.2.2.2.1 k3 hkm;obtain ⟨lc, hlc⟩ : ∃ x, p.log k3 = x := ⟨_, rfl⟩;obtain ⟨sec, hsec⟩ : ∃ x, p.sec k3 = x := ⟨_, rfl⟩;have Hrr := J03 (hrp.regs k3 hk3);rw [hlc, hsec] at Hrr;rw [hlc] at Hlog hwk;obtain ⟨F, hF⟩ : ∃ x, baseN m.len k3 = x := ⟨_, rfl⟩;obtain ⟨nw, hnw⟩ : ∃ x, m.len k3 = x := ⟨_, rfl⟩;rw [hF] at HX;rw [hnw] at hwk
      have HF : Hid (baseN m.len k3 = F /\ m.len k3 = nw /\ (nw : Int) = J0c lc /\ k3 < m.ml /\ 0 < nw /\ nw <= 64 /\ F + nw <= N /\ N <= 384 /\ N <= wc) := by
       have h1 := H0.out.2.2.2.2.2.1 k3 hkm;have h2 := J4c m.len (k3 + 1) m.ml hkm;simp only [baseN] at h2;have h3 := HN.out.2;exact ⟨hF, hnw, hwk, hkm, by omega, by omega, by omega, HN.out.1, TSH.out.cap⟩
      clear hrp hlc hsec hF hnw hwk hkm;go_wp2_with (fail)
      refine HX.out.mono ?_;rintro e w4 ⟨rfl, m4⟩;have x4 := m4.cell x0;have r0 := m4.cell Hrr.out.1;have r1 := m4.cell Hrr.out.2;have HX2 := J03 (J3a lc Hlog.out.1 Hlog.out.2 sec w4);rw [<- HF.out.2.2.1] at HX2;have H4 := J03 m4;clear x0 x1 m4 HX;go_wp2_with (fail)
      refine HX2.out.mono ?_;rintro e w5 ⟨rfl, m5⟩;have hm5 : More wr w5 := H4.out.trans m5;have hN0 : 0 < N := by have := HF.out; omega
      have hwa := TSH.out.hwa hN0;subst hwa;have d10 := hm5.cell Hm3.out.2.2.1.1;have d10f := (Hm3.out.2.2.1.kept (hm5.grow none) (by simp)).2;have d1 : w5.cell? ⟨G, 1, none⟩ = some (.slice (some ⟨wg, 0, none⟩) N wc) := hm5.cell (Hm3.out.2.2.2.1 1 _ (by omega) TSH.out.words).1;have H5 := J03 (And.intro hm5 (And.intro d10 (And.intro d10f d1)));clear x4 r0 r1 m5 hm5 HX2 H4;obtain ⟨S, HS5⟩ : ∃ S : World -> Prop, Hid (∀ w', S w' ↔ (w'.cell? ⟨G, 10, none⟩ = some (.slice xa k3 xc) /\ w'.cell? ⟨G, 1, none⟩ = some (.slice (some ⟨wg, 0, none⟩) N wc))) := ⟨_, fun _ => Iff.rfl⟩;have j1 : ∀ i : { w' // S w' }, i.val.cell? ⟨G, 10, none⟩ = some (.slice xa k3 xc) := fun i => ((HS5.out _).1 i.property).1
      have j2 : ∀ i : { w' // S w' }, i.val.cell? ⟨G, 1, none⟩ = some (.slice (some ⟨wg, 0, none⟩) N wc) := fun i => ((HS5.out _).1 i.property).2
      have hS5 : S w5.drew := (HS5.out _).2 ⟨d10, d1⟩;have hne : Nonempty { w' // S w' } := ⟨⟨_, hS5⟩⟩;have z1 : (F : Int) <= (F : Int) + (nw : Int) := by omega
      have z2 : (F : Int) + (nw : Int) <= (wc : Int) := by have := HF.out; omega
      have z3 : (0 : Int) <= (F : Int) := by omega
      have z4 : (0 : Int) <= (F : Int) + (nw : Int) := by omega
      have z5 : (F : Int) <= (wc : Int) := by omega
      have z6 : ¬ wc = F := by have := HF.out; omega
      have z7 : wrap64 ((F : Int) + (nw : Int)) = (F : Int) + (nw : Int) := by have := HF.out; unfold wrap64; omega
      have z8 := Jfg F nw;have hwr := J2b;clear d10 d10f d1;go_wp2_with (fail)
      refine J49 (S := S) [20, 21] [(0, true), (1, true), (2, true), (3, true), (4, true), (5, true), (7, true), (8, true), (9, true), (10, true), (11, true), (12, true), (13, true), (14, true), (15, true), (16, true), (6, false), (17, false), (18, false), (19, false), (20, true), (21, true), (22, true), (23, false)] (by kernel_rfl) (by kernel_rfl) (by kernel_rfl) hS5 ?_
      iterate 16 (refine J3n rfl (by kernel_rfl) (by kernel_rfl) (fun K hK => ?_); go_simp; refine hK _ _ ?_; clear hK K)
      clear j1 j2 z1 z2 z3 z4 z5 z6 z7 z8;have hwsz : W8.heap.size <= w5.heap.size := by have h1 := Hm3.out.2.1.size; have h2 := H5.out.1.size; omega
      have hc5 : CpAt w5 W8.heap.size ⟨p.rl, m.len, fun j i => s.real.wd (baseN m.len j + i)⟩ k3 (.slice xa k3 xc) G3 C3 := Hm3.out.1.kept (H5.out.1.grow (some G)) hGl8;have Hc5 := J03 (And.intro hc5 hwsz);have HA : Hid (More w5 (w5.alloc (.cells #[] 2)).drew) := ((More.refl w5).alloc _ _).drew;have Hown1 : Hid ((w5.alloc (.cells #[] 2)).drew.ownsRow W8.heap.size 2 1 (.slice (some ⟨w5.heap.size, 0, none⟩) 0 0) 0 []) := World.ownsRow_made w5 #[] 0 hwsz (by unfold maxLen; omega) rfl;have Hlen : Hid ((J2i ⟨p.rl, m.len, fun j i => s.real.wd (baseN m.len j + i)⟩ k3).length = nw) := by rw [show Hid _ = ((J2i ⟨p.rl, m.len, fun j i => s.real.wd (baseN m.len j + i)⟩ k3).length = nw) from rfl, J2o]; exact HF.out.2.1
      have Hnews : Hid (∀ j u, (J2i ⟨p.rl, m.len, fun j i => s.real.wd (baseN m.len j + i)⟩ k3)[j]? = some u -> (w5.alloc (.cells #[] 2)).drew.cell? ((⟨wg, F, none⟩ : Addr).add j) = some u) := by
       intro j u hu;have hj : j < nw := by have := (List.getElem?_eq_some_iff.1 hu).1; rw [Hlen.out] at this; exact this
       rw [J46 _ k3 j (by show j < m.len k3; rw [HF.out.2.1]; exact hj)] at hu;rw [Go.WideShapes.add_plain, <- Option.some.inj hu];dsimp only;rw [HF.out.1];have hlt : G < wg := TSH.out.lt hN0;exact HA.out.cell (H5.out.1.cell (Hm3.out.2.1.cell (TSH.out.cells (F + j) (by have := HF.out; omega)) (fun e => by have := Option.some.inj e; dsimp only at this; omega)))
      clear hwsz hc5;refine J2x rfl (by kernel_rfl) (fun K hK => ?_)
      go_simp
      refine hK _ _ ((HS5.out _).2 ⟨HA.out.cell H5.out.2.1, HA.out.cell H5.out.2.2.2⟩) ?_;clear hK K;refine J2x rfl (by kernel_rfl) (fun K hK => ?_);refine wp_append_lies _ (.tmp 171) (.tmp 181) 65 rfl W8.heap.size 2 i0 (.int .i64 0) 1 8 Tryz.underlying65 Hi.out.1 Hi.out.2.1 Hi.out.2.2.1 Hi.out.2.2.2 rfl (by decide) (.slice (some ⟨w5.heap.size, 0, none⟩) 0 0) 0 [] rfl Hown1.out ⟨wg, F, none⟩ nw (wc - F) (J2i ⟨p.rl, m.len, fun j i => s.real.wd (baseN m.len j + i)⟩ k3) rfl (by rw [Hlen.out, Nat.mul_one]) Hnews.out (J81 _ _) HF.out.2.2.2.2.1 (by have := HF.out; unfold maxLen; omega) (by have := HF.out; omega) (by have := Hc5.out.2; simp; omega) (w5.heap.size + 1) (by simp) ?_;intro ga ca6 w6 own6 gr6 at6 lt6;simp only [Nat.zero_add, List.nil_append] at own6 |-
      have hgl : w5.heap.size <= ga := by
       rcases at6 with h | h
       ·have := Option.some.inj h; dsimp only at this; omega
       ·omega
      have gr6' : (w5.alloc (.cells #[] 2)).grownBy w6 (some w5.heap.size) := ⟨gr6.os, gr6.tape, gr6.output, gr6.size, gr6.block⟩;have hs6 : w5.heap.size + 1 <= w6.heap.size := by have := gr6'.size; simpa using this
      have H6 := J03 (And.intro own6 (And.intro gr6' (And.intro hgl hs6)));have kp6 : ∀ a u, w5.cell? a = some u -> w6.cell? a = some u := fun a u h => gr6'.cell (((More.refl w5).alloc _ _).cell h) (fun e => by have h1 := J05 h; have := Option.some.inj e; omega)
      have HK6 := J03 kp6;refine hK _ _ ((HS5.out _).2 ⟨kp6 _ _ H5.out.2.1, kp6 _ _ H5.out.2.2.2⟩) ?_;clear hK K own6 gr6 at6 lt6 hgl gr6' hs6 kp6;refine J2x rfl (by kernel_rfl) (fun K hK => ?_)
      go_simp
      have HA6 : Hid (More w6 (w6.alloc (.cells #[.slice (some ⟨ga, 0, none⟩) nw ca6] 65))) := (More.refl w6).alloc _ _;refine hK _ _ ((HS5.out _).2 ⟨HA6.out.cell (HK6.out _ _ H5.out.2.1), HA6.out.cell (HK6.out _ _ H5.out.2.2.2)⟩) ?_;clear hK K;obtain ⟨i1, hi', hz0', hz1', hz2'⟩ := info_parts Jim;have Hi' : Hid (Tryz.prog.info? 65 = some i1 /\ i1.zero = some (.slice none 0 0) /\ i1.size = 1 /\ i1.bytes = 24) := ⟨hi', hz0', hz1', hz2'⟩;clear hi' hz0' hz1' hz2';refine J2x rfl (by kernel_rfl) (fun K hK => ?_);refine wp_append_lies _ (.tmp 170) (.tmp 183) 26 rfl W8.heap.size 65 i1 (.slice none 0 0) 1 24 Tryz.underlying26 Hi'.out.1 Hi'.out.2.1 Hi'.out.2.2.1 Hi'.out.2.2.2 rfl (by decide) (.slice xa k3 xc) k3 ((List.range k3).map fun j => .slice (some ⟨G3 j, 0, none⟩) (m.len j) (C3 j)) rfl (Hc5.out.1.own3 _ _ H6.out.2.1) ⟨w6.heap.size, 0, none⟩ 1 1 [.slice (some ⟨ga, 0, none⟩) nw ca6] rfl rfl (cell_one_new _ _ _) (fun x hx => by simp at hx; subst hx; rfl) (by decide) (by have := H0.out.2.2.2.2.2.2.1; have := HF.out; unfold maxLen; omega) (by have := H0.out.2.2.2.2.2.2.1; have := HF.out; omega) (by have := H6.out.2.2.2; have := Hc5.out.2; simp; omega) (w6.heap.size + 1) (by simp) ?_;intro g7 cap7 w7 own7 gr7 at7 lt7
      have hc7 := Hc5.out.1.step (.cells #[] 2) (.cells #[.slice (some ⟨ga, 0, none⟩) nw ca6] 65) ga ca6 g7 cap7 (by show w6.ownsRow _ 2 1 (.slice _ (m.len k3) ca6) (m.len k3) _; rw [HF.out.2.1]; exact H6.out.1) H6.out.2.1 H6.out.2.2.1 (by show w7.ownsRow _ 65 1 _ _ (_ ++ [.slice _ (m.len k3) ca6]); rw [HF.out.2.1]; exact own7) gr7 at7;have hvb : ∀ b, (Value.slice xa k3 xc).ownBlock = some b -> W8.heap.size <= b := fun b hb => (Hc5.out.1.own.lt b hb).1
      have kp7 : ∀ b, b < W8.heap.size -> some b ≠ (Value.slice xa k3 xc).ownBlock := fun b hb e => by have := hvb b e.symm; omega
      have g57 : W8.grownBy w7 (some G) := J1g (J1g (J1g (J1g (J1g Hm3.out.2.1 (H5.out.1.grow none) (fun j h => by cases h)) (World.grownBy_alloc w5 _ none) (fun j h => by cases h)) H6.out.2.1 (fun j h => by have := Option.some.inj h; have := Hc5.out.2; omega)) (World.grownBy_alloc w6 _ none) (fun j h => by cases h)) gr7 hvb;have kw : ∀ o u, Wr wr G o u -> Wr w7 G o u := fun o u h => ((((h.kept (H5.out.1.grow none) (by simp)).kept (World.grownBy_alloc w5 _ none) (by simp)).kept H6.out.2.1 (fun e => by have := Option.some.inj e; have := Hc5.out.2; omega)).kept (World.grownBy_alloc w6 _ none) (by simp)).kept gr7 (kp7 _ hGl8)
      have c10 := (kw _ _ Hm3.out.2.2.1).1;have f10 := (kw _ _ Hm3.out.2.2.1).2;have H7' := J03 (And.intro hc7 (And.intro g57 kw));refine hK _ _ ((HS5.out _).2 ⟨c10, (kw _ _ (Hm3.out.2.2.2.1 1 _ (by omega) TSH.out.words)).1⟩) ?_;clear hK K own7 gr7 at7 lt7 hc7 hvb kp7 kw g57;have hnw : Nonempty World := ⟨w⟩
      iterate 2 (refine J7d rfl (by kernel_rfl) (fun K hK => ?_); go_simp; refine hK _ _ ?_; clear hK K)
      clear hnw;refine J3n rfl (by kernel_rfl) (by kernel_rfl) (fun K hK => ?_); go_simp; refine hK _ _ ?_; clear hK K;refine J7c rfl (by kernel_rfl) (by kernel_rfl) (fun K hK => ?_)
      go_simp
      refine hK _ _ ?_;clear hK K hne hS5;refine NoPanic.normal ?_;have hk63 : wrap64 ((k3 : Int) + 1) = (k3 : Int) + 1 := by have := H0.out.2.2.2.2.2.2.1; have := HF.out; unfold wrap64; omega
      go_wp2;go_roundg g3
      case measure => omega
      case rel =>
       obtain ⟨hc7, g57, kw⟩ := H7'.out;have hgs := J0q w7 G 10 (.slice (some ⟨g7, 0, none⟩) (k3 + 1) cap7);exact ⟨k3 + 1, _, _, _, by omega, by first | rfl | (push_cast; rfl), hc7.kept hgs hGl8, J0z g57 hgs, (kw _ _ Hm3.out.2.2.1).same _, fun j u hj h => (kw _ _ (Hm3.out.2.2.2.1 j u hj h)).other _ _ _ (by omega)⟩

  | succ g =>
   have hk : k < nn := by omega
   have hk' : (k : Int) < (nn : Int) := by omega
   have hk0 : (0 : Int) <= (k : Int) := by omega
   have Hk : Hid (k < m.ml) := by rw [show Hid (k < m.ml) = (k < m.ml) from rfl, Hnn.out]; exact hk
   obtain rfl : ma = some ⟨mb, mo', none⟩ := HM.out.hm (by have := Hk.out; omega);obtain ⟨l0, l1⟩ := H0.out.2.2.2.2.2.1 k Hk.out;have hsz := HW.out.2.1;have q1w := HM.out.lists k Hk.out;dsimp only at q1w;rw [show MA k = some ⟨gb k, go k, none⟩ from HM.out.hg k Hk.out l0] at q1w
   have hold : ∀ a v, w.cell? a = some v -> wr.cell? a = some v := fun a v h => by
    have := J05 h;have h2 := HW.out.1.cell h;exact Hm.out.2.1.cell h2 (fun e => by have := Option.some.inj e; have := HG.out.1; omega)
   have q1 := hold _ _ q1w;have qv := Hm.out.2.2.1.1
   have Hnews : Hid (∀ j u, (J2i m k)[j]? = some u -> wr.drew.cell? ((⟨gb k, go k, none⟩ : Addr).add j) = some u) := by
    intro j u hu;have hj : j < m.len k := by have := (List.getElem?_eq_some_iff.1 hu).1; rw [J2o] at this; exact this
    rw [J46 m k j hj] at hu;rw [Go.WideShapes.add_plain, <- Option.some.inj hu];exact hold _ _ (HM.out.words k Hk.out j hj)
   have hmbl : mb < w.heap.size := J05 q1w;obtain ⟨S, HS1⟩ : ∃ S : World -> Prop, Hid (∀ w', S w' ↔ (w'.cell? ⟨G, 1, none⟩ = some (.slice va (baseN m.len k) vc) /\ w'.cell? ⟨mb, mo' + k, none⟩ = some (.slice (some ⟨gb k, go k, none⟩) (m.len k) (MC0 k)))) := ⟨_, fun _ => Iff.rfl⟩;have j1 : ∀ i : { w' // S w' }, i.val.cell? ⟨G, 1, none⟩ = some (.slice va (baseN m.len k) vc) := fun i => ((HS1.out _).1 i.property).1
   have j2 : ∀ i : { w' // S w' }, i.val.cell? ⟨mb, mo' + k, none⟩ = some (.slice (some ⟨gb k, go k, none⟩) (m.len k) (MC0 k)) := fun i => ((HS1.out _).1 i.property).2
   have hS1 : S wr.drew := (HS1.out _).2 ⟨qv, q1⟩;have hne : Nonempty { w' // S w' } := ⟨⟨_, hS1⟩⟩;have HX := J03 (And.intro qv (And.intro q1 (And.intro l0 (And.intro l1 (And.intro hmbl hsz)))));obtain ⟨r, hr⟩ : ∃ r, m.len k = r := ⟨_, rfl⟩;obtain ⟨bk, hbk⟩ : ∃ r, baseN m.len k = r := ⟨_, rfl⟩;rw [hr] at j2 HX HS1;rw [hbk] at j1 HX HS1 Hm;have Hr := J03 (And.intro hr hbk);have Hbk : Hid (bk <= 384 /\ r <= 64 /\ 0 < r) := ⟨by rw [<- hbk]; exact H0.out.2.2.2.2.2.2.2.2.2.1 k (Nat.le_of_lt Hk.out), by rw [<- hr]; exact l1, by rw [<- hr]; exact l0⟩;clear hr hbk qv q1 q1w hold hmbl l0 l1 hsz;go_wp2_with (fail)
   refine J49 (S := S) [11, 12] [(0, true), (1, true), (2, true), (3, true), (4, true), (5, true), (6, true), (7, true), (8, true), (9, true), (10, false), (11, true), (12, true), (13, true), (14, false)] (by kernel_rfl) (by kernel_rfl) (by kernel_rfl) hS1 ?_
   iterate 10 (refine J3n rfl (by kernel_rfl) (by kernel_rfl) (fun K hK => ?_); go_simp; refine hK _ _ ?_; clear hK K)
   refine J2x rfl (by kernel_rfl) (fun K hK => ?_);refine wp_append_lies _ (.tmp 35) (.tmp 39) 65 rfl (G + 2) 2 i0 (.int .i64 0) 1 8 Tryz.underlying65 Hi.out.1 Hi.out.2.1 Hi.out.2.2.1 Hi.out.2.2.2 rfl (by decide) (.slice va bk vc) bk ((List.range bk).map fun j => .int .i64 (flatM m j)) rfl Hm.out.1 ⟨gb k, go k, none⟩ r (MC0 k) (J2i m k) rfl (by rw [J2o, Hr.out.1, Nat.mul_one]) Hnews.out (J81 m k) Hbk.out.2.2 (by have := Hbk.out; unfold maxLen; omega) (by have := Hbk.out; omega) (by have := Hm.out.2.1.size; have := HX.out.2.2.2.2.2; simp; omega) wr.drew.heap.size rfl ?_;intro g2 cap2 w5 own5 gr5 at5 lt5;have kp5 : ∀ b, b < G + 2 -> some b ≠ (Value.slice va bk vc).ownBlock := fun b hb e => by have := (World.ownsRow.lt Hm.out.1 b e.symm).1; omega
   have gr5' : wr.grownBy w5 (Value.slice va bk vc).ownBlock := ⟨gr5.os, gr5.tape, gr5.output, gr5.size, gr5.block⟩;have h5 : ∀ o u, Wr wr G o u -> Wr w5 G o u := fun o u h => h.kept gr5' (kp5 G (by omega))
   obtain ⟨t1c, t1f⟩ := h5 _ _ Hm.out.2.2.1;have g05 : W3.grownBy w5 (some G) := J1g Hm.out.2.1 gr5' (fun j h => by have := (World.ownsRow.lt Hm.out.1 j h).1; have := HX.out.2.2.2.2.2; omega);have H5 := J03 (And.intro own5 (And.intro g05 (And.intro (show Wr w5 G 1 (.slice va bk vc) from ⟨t1c, t1f⟩) (fun j (hj : j < 18) (h1 : j ≠ 1) => h5 _ _ (Hm.out.2.2.2 j hj h1)))));refine hK _ _ ((HS1.out _).2 ⟨t1c, gr5'.cell HX.out.2.1 (kp5 _ (by have := HX.out.2.2.2.2.1; have := HG.out.1; dsimp only; omega))⟩) ?_;clear hK K own5 gr5 at5 lt5 kp5 gr5' h5 g05;have hnw : Nonempty World := ⟨w⟩
   iterate 2 (refine J7d rfl (by kernel_rfl) (fun K hK => ?_); go_simp; refine hK _ _ ?_; clear hK K)
   clear hnw;refine J3n rfl (by kernel_rfl) (by kernel_rfl) (fun K hK => ?_); go_simp; refine hK _ _ ?_; clear hK K;refine J7c rfl (by kernel_rfl) (by kernel_rfl) (fun K hK => ?_)
   go_simp
   refine hK _ _ ?_;clear hK K hne j1 j2 hS1;refine NoPanic.normal ?_;have hk63 : wrap64 ((k : Int) + 1) = (k : Int) + 1 := by have := H0.out.2.2.2.2.2.2.1; have := Hk.out; unfold wrap64; omega
   have hwr := J2b;go_wp2;go_roundg g
   case measure => omega
   case rel =>
    obtain ⟨own5, g05, m1, mj⟩ := H5.out;have hgs := J0q w5 G 1 (.slice (some ⟨g2, 0, none⟩) (bk + r) cap2);have eb : baseN m.len (k + 1) = bk + r := by simp only [baseN]; rw [Hr.out.1, Hr.out.2]
    refine ⟨k + 1, .slice (some ⟨g2, 0, none⟩) (bk + r) cap2, by omega, by first | rfl | (push_cast; rfl), ?_, J0z g05 hgs, m1.same _, fun j hj h1 => (mj j hj h1).other _ _ _ (by omega)⟩;rw [<- Jds m k Hk.out, eb, Hr.out.2];refine World.ownsRow.kept own5 hgs (.inr ?_);have := (World.ownsRow.lt own5 g2 rfl).1;simp [Value.ownBlock];omega
end
section
open Go.ChangeShapes Go.WideShapes Go.ChangeAt Go.RowKit Go.Deep Go.Joins
set_option linter.unusedVariables false
set_option maxRecDepth 8000
theorem Jfx : Tryz.prog.cellsOf 3 = 1 := by kernel_rfl

theorem Jal {H : Type} {enc : TypeId × Value -> H} {W : World} {base : Nat} {held : Bool} {v : Value} {d : DataW H} {ps : List MemPlace} {r : Reach} {b0 : Nat}
  (hv : Value.okWide Tryz.prog W r b0 27 v) (h : DataW.Trod enc Tryz.prog W base (fun _ => true) held 27 v d ps) :
  ∃ (sa : Option Addr) (sb so n cap : Nat) (L : List Int), v = .slice sa n cap /\ L.length = n /\ n <= cap /\ SIn W sa sb so L := by
 obtain ⟨a0, len, cap, rfl⟩ := okWide_slice Tryz.underlying27 hv;obtain ⟨fuel, hf⟩ := h;rcases open_ints Tryz.underlying27 Tryz.underlying3 Jfx hf with ⟨hcs, _⟩ | ⟨a, len', cap', zs, hcs, _, hl, hm, hlen, _, hcell, _⟩
 ·simp [Value.cells] at hcs
  obtain ⟨rfl, rfl, rfl⟩ := hcs;exact ⟨none, 0, 0, 0, 0, [], rfl, rfl, Nat.le_refl _, ⟨fun h => absurd h (Nat.not_lt_zero _), fun j c hc => by simp at hc⟩⟩
 ·simp [Value.cells] at hcs
  obtain ⟨rfl, rfl, rfl⟩ := hcs;simp only [if_true] at hlen;refine ⟨some a, a.block, a.off, len, cap, zs.take len, rfl, by simp; omega, hl, ?_⟩;by_cases h0 : 0 < len
  ·have h1 := hcell 0 (by omega)
   simp [Addr.add] at h1;have ha := J23 h1;obtain ⟨b, o, sp⟩ := a;simp at ha;subst ha;refine ⟨fun _ => rfl, fun j c hc => ?_⟩;have hj : j < len := by have := (List.getElem?_eq_some_iff.1 hc).1; simp at this; omega
   have h2 := hcell j (by omega);rw [add_plain] at h2;rw [List.getElem?_take, if_pos hj] at hc;rw [List.getD_eq_getElem?_getD, hc, Option.getD_some] at h2;exact h2
  ·obtain rfl : len = 0 := by omega
   exact ⟨fun h => by simp at h, fun j c hc => by simp at hc⟩
end
section
open Go.RowKit
set_option linter.unusedSimpArgs false
set_option linter.unusedVariables false
set_option maxRecDepth 8000
theorem J4y {p : Prg} {m : Mem} (h : J1t p.rl p.log m.ml m.len) (c : Nat) (hc : c <= m.ml) : (baseN m.len c : Int) = baseI p.log c :=
 J83 p m (fun i hi => h.2.2 i (by rw [<- h.2.1]; exact hi)) c hc
theorem Jbh {m : Mem} (h : ∀ j, j < m.ml -> ∀ i, i < m.len j -> B64 (m.wd j i)) (n : Nat) : B64 (flatM m n) := by
 have key : ∀ k, k <= m.ml -> B64 (J7r m n k) := fun k => by
  induction k with
  | zero => intro _; exact J4a
  | succ k ih =>
   intro hk;unfold J7r;by_cases c : baseN m.len k <= n /\ n < baseN m.len k + m.len k
   ·rw [if_pos c]; exact h k (by omega) _ (by omega)
   ·rw [if_neg c]; exact ih (by omega)
 exact key m.ml (Nat.le_refl _)
theorem Jhe {p : Prg} {m m' : Mem} (h : J1t p.rl p.log m.ml m.len) (h' : J1t p.rl p.log m'.ml m'.len) (hp : PubI p m m') : ∀ n, PubW p n -> flatM m n = flatM m' n := by
 rintro n ⟨c, hc, hs, h1, h2⟩;have e := J4y h c (by have := h.2.1; omega);have e' := J4y h' c (by have := h'.2.1; omega);have l1 := h.2.2 c hc;have l2 := h'.2.2 c hc;obtain ⟨i, hi⟩ : ∃ i : Nat, n = baseN m.len c + i := ⟨n - baseN m.len c, by omega⟩;have hi' : n = baseN m'.len c + i := by omega
 rw [hi, J5y m c i (by have := h.2.1; omega) (by omega), <- hi, hi', J5y m' c i (by have := h'.2.1; omega) (by omega)];exact hp c hc hs i (by omega)
theorem Jhd {p : Prg} {m m' x y : Mem} {R R' : Nat -> Int} (h : J1t p.rl p.log m.ml m.len) (h' : J1t p.rl p.log m'.ml m'.len) (hx : ∀ j, x.len j = m.len j) (hw : ∀ j, j < m.ml -> ∀ i, i < m.len j -> x.wd j i = R (baseN m.len j + i)) (hw' : ∀ j, j < m'.ml -> ∀ i, i < m'.len j -> y.wd j i = R' (baseN m'.len j + i))
  (hR : ∀ n, PubW p n -> R n = R' n) : PubI p x y := by
 intro c hc hs i hi;rw [hx] at hi;have e := J4y h c (by have := h.2.1; omega);have e' := J4y h' c (by have := h'.2.1; omega);have l1 := h.2.2 c hc;have l2 := h'.2.2 c hc;have eb : baseN m.len c = baseN m'.len c := by omega
 rw [hw c (by have := h.2.1; omega) i hi, hw' c (by have := h'.2.1; omega) i (by omega), <- eb];exact hR _ ⟨c, hc, hs, by omega, by omega⟩

theorem J6r (p : Prg) (l : Loc) (m m' : Mem) (ml ml' : MLoc) (sa : Option Addr) (sb so sn sc : Nat) (L : List Int) (fuel : Int) (w : World) (hp : PIn w p l) (hf : p.Fit) (hm : MRaw w m ml) (hwd : ∀ j, j < m.ml -> ∀ i, i < m.len j -> B64 (m.wd j i)) (hm' : MRaw w m' ml') (hwd' : ∀ j, j < m'.ml -> ∀ i, i < m'.len j -> B64 (m'.wd j i)) (hL : L.length = sn) (hcap : sn <= sc) (hs : SIn w sa sb so L) :
  Calls Tryz.prog 3 #[.agg #[.slice l.ra p.rl l.rc, .slice l.ca p.cl l.cc], .slice ml.ma m.ml ml.mc, .slice ml'.ma m'.ml ml'.mc, .slice sa sn sc, .int .i64 fuel] w fun e w' => e = .returned (.bool true) /\ More w w' := by
 suffices hP : ∀ P : Ending -> World -> Prop, (∀ w', More w w' -> P (.returned (.bool true)) w') -> Calls Tryz.prog 3 #[.agg #[.slice l.ra p.rl l.rc, .slice l.ca p.cl l.cc], .slice ml.ma m.ml ml.mc, .slice ml'.ma m'.ml ml'.mc, .slice sa sn sc, .int .i64 fuel] w P from hP _ (fun w' m => ⟨rfl, m⟩)
 intro P hP0;have HP : Hid (∀ w', More w w' -> P (.returned (.bool true)) w') := hP0;have H : Hid (PIn w p l /\ p.Fit /\ MRaw w m ml /\ (∀ j, j < m.ml -> ∀ i, i < m.len j -> B64 (m.wd j i)) /\ MRaw w m' ml' /\ (∀ j, j < m'.ml -> ∀ i, i < m'.len j -> B64 (m'.wd j i)) /\ (L.length = sn /\ sn <= sc /\ SIn w sa sb so L)) := ⟨hp, hf, hm, hwd, hm', hwd', ⟨hL, hcap, hs⟩⟩;have CK : Hid (p.Ok 200 8 -> ∀ lk, Known p lk -> (J0e p lk).1 = 0 -> ∀ w1 : World, More w w1 -> Loads p l w1) := fun ok lk hk hc w1 m1 => Jcn p l w1 (hp.more m1) hf ok lk hk hc
 clear hP0 hp hf hm hwd hm' hwd' hL hcap hs;have C1 : Hid (∀ w1 : World, More w w1 -> Calls Tryz.prog 4 #[.agg #[.slice l.ra p.rl l.rc, .slice l.ca p.cl l.cc]] w1 fun e w' => ∃ f : Int × Int, Told p f /\ e = .returned (.agg #[.int .i64 f.1, .int .i64 f.2]) /\ More w1 w') := fun w1 m1 => Ja4 p l w1 (H.out.1.more m1) H.out.2.1
 have CF : Hid (∀ r : Bool, (r = true ↔ J1t p.rl p.log m.ml m.len) -> ∀ w1 : World, More w w1 -> Calls Tryz.prog 5 #[.agg #[.slice l.ra p.rl l.rc, .slice l.ca p.cl l.cc], .slice ml.ma m.ml ml.mc] w1 fun e w' => e = .returned (.bool r) /\ More w1 w') := fun r hr w1 m1 => J8z p l m ml w1 (H.out.1.more m1) (H.out.2.2.1.more m1) r hr
 have CG : Hid (∀ r : Bool, (r = true ↔ J1t p.rl p.log m'.ml m'.len) -> ∀ w1 : World, More w w1 -> Calls Tryz.prog 5 #[.agg #[.slice l.ra p.rl l.rc, .slice l.ca p.cl l.cc], .slice ml'.ma m'.ml ml'.mc] w1 fun e w' => e = .returned (.bool r) /\ More w1 w') := fun r hr w1 m1 => J8z p l m' ml' w1 (H.out.1.more m1) (H.out.2.2.2.2.1.more m1) r hr
 have CU : Hid (p.Ok 200 8 -> J1t p.rl p.log m.ml m.len -> J1t p.rl p.log m'.ml m'.len -> ∀ r : Bool, (r = true ↔ PubI p m m') -> ∀ w1 : World, More w w1 -> Calls Tryz.prog 6 #[.agg #[.slice l.ra p.rl l.rc, .slice l.ca p.cl l.cc], .slice ml.ma m.ml ml.mc, .slice ml'.ma m'.ml ml'.mc] w1 fun e w' => e = .returned (.bool r) /\ More w1 w') := fun hok hf1 hf2 r hr w1 m1 => by
  obtain ⟨f1, f2, f3, f4⟩ := J88 hok hf1;obtain ⟨g1, g2, g3, g4⟩ := J88 hok hf2;exact J6z p l m m' ml ml' w1 (H.out.1.more m1) ((H.out.2.2.1.more m1).in_ f2 f4) ((H.out.2.2.2.2.1.more m1).in_ g2 g4) f1 g1 hok.1.1 (fun c hc => ⟨by have := f3 c (by omega); have := g3 c (by omega); omega, f4 c (by omega)⟩) r hr
 have CS : Hid (∀ r : Bool, (r = true ↔ ScOk L) -> ∀ w1 : World, More w w1 -> Calls Tryz.prog 7 #[.slice sa sn sc] w1 fun e w' => e = .returned (.bool r) /\ More w1 w') := fun r hr w1 m1 => by
  refine (Jcx sa sb so sn sc L H.out.2.2.2.2.2.2.1 w1 (H.out.2.2.2.2.2.2.2.2.more m1)).mono ?_;rintro e w' ⟨q, rfl, hq, rfl⟩;have : q = r := Bool.eq_iff_iff.2 (hq.trans hr.symm);rw [this];exact ⟨rfl, More.refl _⟩
 have CH : Hid (∀ h lh, J65 p h -> p.Ok 200 8 -> J1t p.rl p.log m.ml m.len -> J1t p.rl p.log m'.ml m'.len -> PubI p m m' -> ScOk L -> 0 <= fuel -> fuel <= 4000 -> ∀ w1 : World, More w w1 -> PIn w1 h lh ->
   (Calls Tryz.prog 10 #[.agg #[.slice lh.ra h.rl lh.rc, .slice lh.ca h.cl lh.cc], .slice ml.ma m.ml ml.mc, .slice sa sn sc, .int .i64 fuel] w1 (J5w m (playS h (flatM m) L fuel.toNat) w1)) /\
   (Calls Tryz.prog 10 #[.agg #[.slice lh.ra h.rl lh.rc, .slice lh.ca h.cl lh.cc], .slice ml'.ma m'.ml ml'.mc, .slice sa sn sc, .int .i64 fuel] w1 (J5w m' (playS h (flatM m') L fuel.toNat) w1))) := fun h lh q hok hf1 hf2 hpub hsc f0 f1 w1 m1 hin => by
  obtain ⟨k, _⟩ := (⟨J6q H.out.2.1 q, J5p H.out.2.1 q⟩ : Like8 p h /\ Still h);obtain ⟨g1, g2, g3, g4⟩ := J88 hok hf1;obtain ⟨i1, i2, i3, i4⟩ := J88 hok hf2;obtain ⟨fu, rfl⟩ : ∃ fu : Nat, fuel = fu := ⟨fuel.toNat, by omega⟩;rw [Int.toNat_natCast];have hn64 : ∀ i, i < h.cl -> B64 (h.ins i).n := fun i hi => (k.fit.ins i hi).2.2.2.2
  refine ⟨?_, ?_⟩
  ·exact Jek h lh m ml sa sb so sn sc L fu w1 hin ((H.out.2.2.1.more m1).in_ g2 g4) k.ok hn64 (k.fits hf1) H.out.2.2.2.1 (by omega) H.out.2.2.2.2.2.2.1 H.out.2.2.2.2.2.2.2.1 (H.out.2.2.2.2.2.2.2.2.more m1) hsc
  ·exact Jek h lh m' ml' sa sb so sn sc L fu w1 hin ((H.out.2.2.2.2.1.more m1).in_ i2 i4) k.ok hn64 (k.fits hf2) H.out.2.2.2.2.2.1 (by omega) H.out.2.2.2.2.2.2.1 H.out.2.2.2.2.2.2.2.1 (H.out.2.2.2.2.2.2.2.2.more m1) hsc
 have HS : Hid (∀ h lh, J65 p h -> p.Ok 200 8 -> J1t p.rl p.log m.ml m.len -> J1t p.rl p.log m'.ml m'.len -> PubI p m m' -> ∀ u v mm mm' w1, PIn w1 h lh ->
   ShownAt w1 u ⟨(playS h (flatM m) L fuel.toNat).fin, (playS h (flatM m) L fuel.toNat).val, (playS h (flatM m) L fuel.toNat).steps, (playS h (flatM m) L fuel.toNat).seen, mm⟩ -> mm.ml = m.ml -> (∀ j, mm.len j = m.len j) -> (∀ j, j < m.ml -> ∀ i, i < m.len j -> mm.wd j i = (playS h (flatM m) L fuel.toNat).wd (baseN m.len j + i)) ->
   ShownAt w1 v ⟨(playS h (flatM m') L fuel.toNat).fin, (playS h (flatM m') L fuel.toNat).val, (playS h (flatM m') L fuel.toNat).steps, (playS h (flatM m') L fuel.toNat).seen, mm'⟩ -> mm'.ml = m'.ml -> (∀ j, mm'.len j = m'.len j) -> (∀ j, j < m'.ml -> ∀ i, i < m'.len j -> mm'.wd j i = (playS h (flatM m') L fuel.toNat).wd (baseN m'.len j + i)) ->
   Calls Tryz.prog 11 #[.agg #[.slice lh.ra h.rl lh.rc, .slice lh.ca h.cl lh.cc], u, v] w1 fun e w' => e = .returned (.bool true) /\ More w1 w') := fun h lh q hok hf1 hf2 hpub u v mm mm' w1 hin hu u1 u2 u3 hv v1 v2 v3 => by
  obtain ⟨k, W, lab, I, hW, T, I0⟩ := (⟨J6q H.out.2.1 q, J5p H.out.2.1 q⟩ : Like8 p h /\ Still h);have hV := fun n => hW _ (Jbh H.out.2.2.2.1 n)
  have hV' := fun n => hW _ (Jbh H.out.2.2.2.2.2.1 n)
  have hpub' : PubI h m m' := fun c hc hs i hi => hpub c (by rw [k.rl]; exact hc) (by rw [(k.reg c (by rw [k.rl]; exact hc)).2]; exact hs) i hi
  have g1 := k.fits hf1;have g2 := k.fits hf2;obtain ⟨q1, q2, q3, q4, q5⟩ := Jb1 T I0 (flatM m) (flatM m') (Jhe g1 g2 hpub') hV hV' L fuel.toNat;obtain ⟨su, lu, rfl, hu1, hu2⟩ := hu;obtain ⟨sv, lv, rfl, hv1, hv2⟩ := hv;dsimp only at hu1 hu2 hv1 hv2 |-;have hrl6 : h.rl <= 6 := k.ok.1.1;rw [<- q1, <- q2, <- q3];rw [<- q4] at hv1;refine Jhi _ _ ⟨_, _, _, rfl⟩ ⟨_, _, _, rfl⟩ _ _ _ su sv _ _ w1 (J7y hu1) (J7y hv1) ⟨_, _, _, rfl⟩ ⟨_, _, _, rfl⟩ (fun w2 m2 => Jhq su sv _ w2 (hu1.more m2) (hv1.more m2)) (fun w2 m2 => ?_);refine J6z h lh mm mm' lu lv w2 (hin.more m2) (hu2.more m2) (hv2.more m2) (u1.trans g1.2.1) (v1.trans g2.2.1) hrl6 (fun c hc => ?_) true ⟨fun _ => Jhd g1 g2 u2 u3 v3 q5, fun _ => rfl⟩;rw [u2, v2];have e1 := g1.2.2 c hc;have e2 := g2.2.2 c hc;have e3 := k.ok.1.2 c hc;have e4 := J1b (k := (h.log c).toNat) (by omega);unfold J0c at e1 e2;exact ⟨by omega, by omega⟩
 clear H;obtain ⟨ra, Hra⟩ : ∃ x, Hid (l.ra = x) := ⟨_, rfl⟩;obtain ⟨rl, Hrl⟩ : ∃ x, Hid (p.rl = x) := ⟨_, rfl⟩;obtain ⟨rc, Hrc⟩ : ∃ x, Hid (l.rc = x) := ⟨_, rfl⟩;obtain ⟨ca, Hca⟩ : ∃ x, Hid (l.ca = x) := ⟨_, rfl⟩;obtain ⟨cl, Hcl⟩ : ∃ x, Hid (p.cl = x) := ⟨_, rfl⟩;obtain ⟨cc, Hcc⟩ : ∃ x, Hid (l.cc = x) := ⟨_, rfl⟩;obtain ⟨mv, Hmv⟩ : ∃ x, Hid (Value.slice ml.ma m.ml ml.mc = x) := ⟨_, rfl⟩;obtain ⟨nv, Hnv⟩ : ∃ x, Hid (Value.slice ml'.ma m'.ml ml'.mc = x) := ⟨_, rfl⟩;obtain ⟨sv, Hsv⟩ : ∃ x, Hid (Value.slice sa sn sc = x) := ⟨_, rfl⟩;obtain ⟨FA, HFA⟩ : ∃ x : Prop, Hid (J1t p.rl p.log m.ml m.len = x) := ⟨_, rfl⟩;obtain ⟨FB, HFB⟩ : ∃ x : Prop, Hid (J1t p.rl p.log m'.ml m'.len = x) := ⟨_, rfl⟩;unfold Loads at CK;rw [HFA.out] at CF CU CH HS;rw [HFB.out] at CG CU CH HS;rw [Hmv.out] at CF CU CH;rw [Hnv.out] at CG CU CH;rw [Hsv.out] at CS CH;rw [Hra.out, Hrl.out, Hrc.out, Hca.out, Hcl.out, Hcc.out] at C1 CF CG CU CK;rw [Hra.out, Hrl.out, Hrc.out, Hca.out, Hcl.out, Hcc.out, Hmv.out, Hnv.out, Hsv.out];clear Hmv Hnv Hsv HFA HFB Hra Hrl Hrc Hca Hcl Hcc;go_enter Tryz.func3, Tryz.ntmps3;go_wp2_with (fail)
 refine (C1.out _ ((More.refl _).alloc _ _)).mono ?_;rintro e w1 ⟨⟨f1, f2⟩, hT, rfl, m1⟩;dsimp only at hT |-;have Hm1 : Hid (More w w1) := ((More.refl _).alloc _ _).trans m1;have Hp1 : Hid (Blk w1 w.heap.size #[.slice ra rl rc, .slice ca cl cc] 25) := (Blk.last _ _ _).more m1;have HT : Hid (Told p (f1, f2)) := hT;clear m1 hT C1;by_cases h0 : f1 = 0
 ·subst h0
  obtain ⟨hok, lk, hk, hk0⟩ := HT.out.ok rfl;have HO : Hid (p.Ok 200 8 /\ Known p lk /\ (J0e p lk).1 = 0) := ⟨hok, hk, hk0⟩;clear hok hk hk0 HT;have c0 : w1.cell? ⟨w.heap.size, 0, none⟩ = some (.slice ra rl rc) := Hp1.out.cell rfl;have c1 : w1.cell? ⟨w.heap.size, 1, none⟩ = some (.slice ca cl cc) := Hp1.out.cell rfl;have z1 := Hp1.out.lt;by_cases hA : FA
  ·have D : Hid (∀ w1 : World, More w w1 -> Calls Tryz.prog 5 #[.agg #[.slice ra rl rc, .slice ca cl cc], mv] w1 fun e w' => e = .returned (.bool true) /\ More w1 w') := CF.out true ⟨fun _ => hA, fun _ => rfl⟩
   clear CF;go_wp2_with (fail)
   refine (D.out _ (Hm1.out.alloc _ _)).mono ?_;rintro e w2 ⟨rfl, m_⟩;have Hm2 : Hid (More w w2) := (Hm1.out.alloc _ _).trans m_;have Hp2 : Hid (Blk w2 w.heap.size #[.slice ra rl rc, .slice ca cl cc] 25) := (Hp1.out.alloc _ _).more m_;clear m_ c0 c1 z1 D;have c0 : w2.cell? ⟨w.heap.size, 0, none⟩ = some (.slice ra rl rc) := Hp2.out.cell rfl;have c1 : w2.cell? ⟨w.heap.size, 1, none⟩ = some (.slice ca cl cc) := Hp2.out.cell rfl;by_cases hB : FB
   ·have D : Hid (∀ w1 : World, More w w1 -> Calls Tryz.prog 5 #[.agg #[.slice ra rl rc, .slice ca cl cc], nv] w1 fun e w' => e = .returned (.bool true) /\ More w1 w') := CG.out true ⟨fun _ => hB, fun _ => rfl⟩
    clear CG;go_wp2_with (fail)
    refine (D.out _ Hm2.out).mono ?_;rintro e w3 ⟨rfl, m_⟩;have Hm3 : Hid (More w w3) := Hm2.out.trans m_;have Hp3 : Hid (Blk w3 w.heap.size #[.slice ra rl rc, .slice ca cl cc] 25) := Hp2.out.more m_;clear m_ c0 c1 D;have c0 : w3.cell? ⟨w.heap.size, 0, none⟩ = some (.slice ra rl rc) := Hp3.out.cell rfl;have c1 : w3.cell? ⟨w.heap.size, 1, none⟩ = some (.slice ca cl cc) := Hp3.out.cell rfl;by_cases hU : PubI p m m'
    ·have D : Hid (∀ w1 : World, More w w1 -> Calls Tryz.prog 6 #[.agg #[.slice ra rl rc, .slice ca cl cc], mv, nv] w1 fun e w' => e = .returned (.bool true) /\ More w1 w') := CU.out HO.out.1 hA hB true ⟨fun _ => hU, fun _ => rfl⟩
     clear CU;go_wp2_with (fail)
     refine (D.out _ Hm3.out).mono ?_;rintro e w4 ⟨rfl, m_⟩;have Hm4 : Hid (More w w4) := Hm3.out.trans m_;have Hp4 : Hid (Blk w4 w.heap.size #[.slice ra rl rc, .slice ca cl cc] 25) := Hp3.out.more m_;clear m_ c0 c1 D;have c0 : w4.cell? ⟨w.heap.size, 0, none⟩ = some (.slice ra rl rc) := Hp4.out.cell rfl;have c1 : w4.cell? ⟨w.heap.size, 1, none⟩ = some (.slice ca cl cc) := Hp4.out.cell rfl;by_cases hS : ScOk L
     ·have D : Hid (∀ w1 : World, More w w1 -> Calls Tryz.prog 7 #[sv] w1 fun e w' => e = .returned (.bool true) /\ More w1 w') := CS.out true ⟨fun _ => hS, fun _ => rfl⟩
      clear CS;go_wp2_with (fail)
      refine (D.out _ Hm4.out).mono ?_;rintro e w5 ⟨rfl, m_⟩;have Hm5 : Hid (More w w5) := Hm4.out.trans m_;have Hp5 : Hid (Blk w5 w.heap.size #[.slice ra rl rc, .slice ca cl cc] 25) := Hp4.out.more m_;clear m_ c0 c1 D;have c0 : w5.cell? ⟨w.heap.size, 0, none⟩ = some (.slice ra rl rc) := Hp5.out.cell rfl;have c1 : w5.cell? ⟨w.heap.size, 1, none⟩ = some (.slice ca cl cc) := Hp5.out.cell rfl;by_cases hf0 : fuel < 0
      ·have d0 : decide (fuel < 0) = true := by simp [hf0]
       have Hend : Hid (P (.returned (.bool true)) w5) := HP.out _ Hm5.out;clear CK CH HS HP;go_wp2;exact Hend.out
      have d0 : decide (fuel < 0) = false := by simp; omega
      by_cases hf1 : 4000 < fuel
      ·have d1 : decide (4000 < fuel) = true := by simp [hf1]
       have Hend : Hid (P (.returned (.bool true)) w5) := HP.out _ Hm5.out;clear CK CH HS HP;go_wp2;exact Hend.out
      have d1 : decide (4000 < fuel) = false := by simp; omega
      have CK1 := CK.out HO.out.1 lk HO.out.2.1 HO.out.2.2;have CK2 : Hid (∀ w1 : World, More w w1 -> Calls Tryz.prog 8 #[.agg #[.slice ra rl rc, .slice ca cl cc]] w1 fun e w' => ∃ g n c, e = .returned (.tuple #[.slice (some ⟨g, 0, none⟩) n c, .agg #[.int .i64 0, .int .i64 0]]) /\ More w1 w' /\ ∀ w2, More w' w2 -> Calls Tryz.prog 9 #[.agg #[.slice ra rl rc, .slice ca cl cc], .slice (some ⟨g, 0, none⟩) n c] w2 fun e w' => ∃ (h : Prg) (lh : Loc), J65 p h /\ PIn w' h lh /\ e = .returned (.tuple #[.agg #[.slice lh.ra h.rl lh.rc, .slice lh.ca h.cl lh.cc], .bool true]) /\ More w2 w') := CK1;clear CK CK1;go_wp2_with (fail)
      refine (CK2.out _ Hm5.out).mono ?_;rintro e wx ⟨g, n, c, rfl, mx, hx⟩;have Hmx : Hid (More w wx) := Hm5.out.trans mx;have Hpx : Hid (Blk wx w.heap.size #[.slice ra rl rc, .slice ca cl cc] 25) := Hp5.out.more mx;have Hx_ : Hid (∀ w2, More wx w2 -> Calls Tryz.prog 9 #[.agg #[.slice ra rl rc, .slice ca cl cc], .slice (some ⟨g, 0, none⟩) n c] w2 fun e w' => ∃ (h : Prg) (lh : Loc), J65 p h /\ PIn w' h lh /\ e = .returned (.tuple #[.agg #[.slice lh.ra h.rl lh.rc, .slice lh.ca h.cl lh.cc], .bool true]) /\ More w2 w') := hx;clear mx hx CK2 c0 c1;obtain ⟨wy, Hwy⟩ : ∃ w_ : World, Hid (w_ = wx.alloc (.cells #[.int .i64 0, .int .i64 0] 30)) := ⟨_, rfl⟩;have Hmy : Hid (More wx wy) := Hwy.out ▸ (More.refl _).alloc _ _;have Hfy : Hid (Blk wy wx.heap.size #[.int .i64 0, .int .i64 0] 30) := Hwy.out ▸ Blk.last _ _ _;have c0 : wx.cell? ⟨w.heap.size, 0, none⟩ = some (.slice ra rl rc) := Hpx.out.cell rfl;have c1 : wx.cell? ⟨w.heap.size, 1, none⟩ = some (.slice ca cl cc) := Hpx.out.cell rfl;have zx := Hpx.out.lt;go_wp2_with (fail)
      rw [<- Hwy.out];refine (Hx_.out wy Hmy.out).mono ?_;rintro e w6 ⟨h, lh, hq, hin, rfl, m6⟩;have CH1 : Hid (∀ w1 : World, More w w1 -> PIn w1 h lh -> _) := CH.out h lh hq HO.out.1 hA hB hU hS (by omega) (by omega);have HS1 := HS.out h lh hq HO.out.1 hA hB hU;obtain ⟨X, HX⟩ : ∃ X, Hid (playS h (flatM m) L fuel.toNat = X) := ⟨_, rfl⟩;obtain ⟨Y, HY⟩ : ∃ Y, Hid (playS h (flatM m') L fuel.toNat = Y) := ⟨_, rfl⟩;rw [HX.out, HY.out] at CH1 HS1
      have HS2 : Hid (∀ u v mm mm' w1, PIn w1 h lh -> ShownAt w1 u ⟨X.fin, X.val, X.steps, X.seen, mm⟩ -> mm.ml = m.ml -> (∀ j, mm.len j = m.len j) -> (∀ j, j < m.ml -> ∀ i, i < m.len j -> mm.wd j i = X.wd (baseN m.len j + i)) ->
        ShownAt w1 v ⟨Y.fin, Y.val, Y.steps, Y.seen, mm'⟩ -> mm'.ml = m'.ml -> (∀ j, mm'.len j = m'.len j) -> (∀ j, j < m'.ml -> ∀ i, i < m'.len j -> mm'.wd j i = Y.wd (baseN m'.len j + i)) ->
        Calls Tryz.prog 11 #[.agg #[.slice lh.ra h.rl lh.rc, .slice lh.ca h.cl lh.cc], u, v] w1 fun e w' => e = .returned (.bool true) /\ More w1 w') := HS1
      clear CH HS HS1;have Hm6 : Hid (More w w6) := (Hmx.out.trans Hmy.out).trans m6;have Hf6 : Hid (Blk w6 wx.heap.size #[.int .i64 0, .int .i64 0] 30) := Hfy.out.more m6;have Hin6 : Hid (PIn w6 h lh) := hin;obtain ⟨ra', Hra'⟩ : ∃ x, Hid (lh.ra = x) := ⟨_, rfl⟩;obtain ⟨rl', Hrl'⟩ : ∃ x, Hid (h.rl = x) := ⟨_, rfl⟩;obtain ⟨rc', Hrc'⟩ : ∃ x, Hid (lh.rc = x) := ⟨_, rfl⟩;obtain ⟨ca', Hca'⟩ : ∃ x, Hid (lh.ca = x) := ⟨_, rfl⟩;obtain ⟨cl', Hcl'⟩ : ∃ x, Hid (h.cl = x) := ⟨_, rfl⟩;obtain ⟨cc', Hcc'⟩ : ∃ x, Hid (lh.cc = x) := ⟨_, rfl⟩;rw [Hra'.out, Hrl'.out, Hrc'.out, Hca'.out, Hcl'.out, Hcc'.out] at CH1 HS2 |-;clear hin hq m6 c0 c1 zx Hx_ HX HY;have f0 : w6.cell? ⟨wx.heap.size, 0, none⟩ = some (.int .i64 0) := Hf6.out.cell rfl;have z6 := Hf6.out.lt;obtain ⟨w9, Hw9⟩ : ∃ w_ : World, Hid (w_ = w6.alloc (.cells #[.slice ra' rl' rc', .slice ca' cl' cc'] 25)) := ⟨_, rfl⟩;have Hm9 : Hid (More w6 w9) := by rw [Hw9.out]; exact (More.refl _).alloc _ _
      have Hb9 : Hid (Blk w9 w6.heap.size #[.slice ra' rl' rc', .slice ca' cl' cc'] 25) := by rw [Hw9.out]; exact Blk.last _ _ _
      go_wp2_with (fail)
      rw [<- Hw9.out];refine (CH1.out w9 (Hm6.out.trans Hm9.out) (Hin6.out.more Hm9.out)).1.mono ?_;rintro e wa ⟨u, mm, rfl, hu, u1, u2, u3, ma⟩;have hu0 := hu;obtain ⟨su, lu, rfl, hu1, hu2⟩ := hu;obtain ⟨xa, xb, xo, xc, rfl, _⟩ := hu1;dsimp only at hu0 |-;obtain ⟨x1, hx1⟩ : ∃ x, X.fin = x := ⟨_, rfl⟩;obtain ⟨x2, hx2⟩ : ∃ x, X.val = x := ⟨_, rfl⟩;obtain ⟨x3, hx3⟩ : ∃ x, X.steps = x := ⟨_, rfl⟩;obtain ⟨x4, hx4⟩ : ∃ x, X.seen.length = x := ⟨_, rfl⟩;obtain ⟨x5, hx5⟩ : ∃ x, mm.ml = x := ⟨_, rfl⟩;have Hx : Hid (X.fin = x1 /\ X.val = x2 /\ X.steps = x3) := ⟨hx1, hx2, hx3⟩;have Hu3 : Hid (mm.ml = m.ml /\ (∀ j, mm.len j = m.len j) /\ ∀ j, j < m.ml -> ∀ i, i < m.len j -> mm.wd j i = X.wd (baseN m.len j + i)) := ⟨u1, u2, u3⟩
      have Hu : Hid (ShownAt wa (.agg #[.int .i64 x1, .int .i64 x2, .int .i64 x3, .slice xa x4 xc, .slice lu.ma x5 lu.mc]) ⟨X.fin, X.val, X.steps, X.seen, mm⟩) := by
       have q := hu0;rw [hx4, hx5] at q;rw [<- hx1, <- hx2, <- hx3];exact q
      rw [hx1, hx2, hx3, hx4, hx5];have Hma : Hid (More w6 wa) := Hm9.out.trans ma;have Hba : Hid (Blk wa w6.heap.size #[.slice ra' rl' rc', .slice ca' cl' cc'] 25) := Hb9.out.more ma;obtain ⟨wb, Hwb⟩ : ∃ w_ : World, Hid (w_ = wa.alloc (.cells #[.int .i64 x1, .int .i64 x2, .int .i64 x3, .slice xa x4 xc, .slice lu.ma x5 lu.mc] 42)) := ⟨_, rfl⟩;have Hmb : Hid (More wa wb) := Hwb.out ▸ (More.refl _).alloc _ _;have Hcb : Hid (Blk wb wa.heap.size #[.int .i64 x1, .int .i64 x2, .int .i64 x3, .slice xa x4 xc, .slice lu.ma x5 lu.mc] 42) := Hwb.out ▸ Blk.last _ _ _;clear hu0 hu2 ma hx1 hx2 hx3 hx4 hx5 u1 u2 u3 f0 z6;have b0 : wa.cell? ⟨w6.heap.size, 0, none⟩ = some (.slice ra' rl' rc') := Hba.out.cell rfl;have b1 : wa.cell? ⟨w6.heap.size, 1, none⟩ = some (.slice ca' cl' cc') := Hba.out.cell rfl;have za := Hba.out.lt;go_wp2_with (fail)
      rw [<- Hwb.out];refine (CH1.out wb (Hm6.out.trans (Hma.out.trans Hmb.out)) (Hin6.out.more (Hma.out.trans Hmb.out))).2.mono ?_;rintro e wc ⟨v, mm', rfl, hv, v1, v2, v3, mc⟩;have hv0 := hv;obtain ⟨sv_, lv, rfl, hv1, hv2⟩ := hv;obtain ⟨ya, yb, yo, yc, rfl, _⟩ := hv1;dsimp only at hv0 |-;obtain ⟨y1, hy1⟩ : ∃ x, Y.fin = x := ⟨_, rfl⟩;obtain ⟨y2, hy2⟩ : ∃ x, Y.val = x := ⟨_, rfl⟩;obtain ⟨y3, hy3⟩ : ∃ x, Y.steps = x := ⟨_, rfl⟩;obtain ⟨y4, hy4⟩ : ∃ x, Y.seen.length = x := ⟨_, rfl⟩;obtain ⟨y5, hy5⟩ : ∃ x, mm'.ml = x := ⟨_, rfl⟩
      have Hv : ShownAt wc (.agg #[.int .i64 y1, .int .i64 y2, .int .i64 y3, .slice ya y4 yc, .slice lv.ma y5 lv.mc]) ⟨Y.fin, Y.val, Y.steps, Y.seen, mm'⟩ := by
       have q := hv0;rw [hy4, hy5] at q;rw [<- hy1, <- hy2, <- hy3];exact q
      rw [hy1, hy2, hy3, hy4, hy5];obtain ⟨wd, Hwd⟩ : ∃ w_ : World, Hid (w_ = wc.alloc (.cells #[.int .i64 y1, .int .i64 y2, .int .i64 y3, .slice ya y4 yc, .slice lv.ma y5 lv.mc] 42)) := ⟨_, rfl⟩;have Hmd : Hid (More wc wd) := Hwd.out ▸ (More.refl _).alloc _ _;have HMd : Hid (More w6 wd) := (Hma.out.trans Hmb.out).trans (mc.trans Hmd.out)
      have CQ : Hid (Calls Tryz.prog 11 #[.agg #[.slice ra' rl' rc', .slice ca' cl' cc'], .agg #[.int .i64 x1, .int .i64 x2, .int .i64 x3, .slice xa x4 xc, .slice lu.ma x5 lu.mc], .agg #[.int .i64 y1, .int .i64 y2, .int .i64 y3, .slice ya y4 yc, .slice lv.ma y5 lv.mc]] wd fun e w' => e = .returned (.bool true) /\ More wd w') :=
       HS2.out _ _ mm mm' wd (Hin6.out.more HMd.out) (Hu.out.more (Hmb.out.trans (mc.trans Hmd.out))) Hu3.out.1 Hu3.out.2.1 Hu3.out.2.2 (Hv.more Hmd.out) v1 v2 v3
      have Hcc_ : Hid (Blk wc wa.heap.size #[.int .i64 x1, .int .i64 x2, .int .i64 x3, .slice xa x4 xc, .slice lu.ma x5 lu.mc] 42) := Hcb.out.more mc;have Hbc : Hid (Blk wc w6.heap.size #[.slice ra' rl' rc', .slice ca' cl' cc'] 25) := Hba.out.more (Hmb.out.trans mc);clear hv0 hv2 mc hy1 hy2 hy3 hy4 hy5 v1 v2 v3 Hv b0 b1 za CH1 HS2;have a0 : wc.cell? ⟨wa.heap.size, 0, none⟩ = some (.int .i64 x1) := Hcc_.out.cell rfl;have a1 : wc.cell? ⟨wa.heap.size, 1, none⟩ = some (.int .i64 x2) := Hcc_.out.cell rfl;have a2 : wc.cell? ⟨wa.heap.size, 2, none⟩ = some (.int .i64 x3) := Hcc_.out.cell rfl;have a3 : wc.cell? ⟨wa.heap.size, 3, none⟩ = some (.slice xa x4 xc) := Hcc_.out.cell rfl;have a4 : wc.cell? ⟨wa.heap.size, 4, none⟩ = some (.slice lu.ma x5 lu.mc) := Hcc_.out.cell rfl;have b0 : wc.cell? ⟨w6.heap.size, 0, none⟩ = some (.slice ra' rl' rc') := Hbc.out.cell rfl;have b1 : wc.cell? ⟨w6.heap.size, 1, none⟩ = some (.slice ca' cl' cc') := Hbc.out.cell rfl;have zc := Hcc_.out.lt;have zd := Hbc.out.lt;go_wp2_with (fail)
      rw [<- Hwd.out];refine CQ.out.mono ?_;rintro e wz ⟨rfl, mz⟩;have Hend : Hid (P (.returned (.bool true)) wz) := HP.out _ ((Hm6.out.trans HMd.out).trans mz);clear mz CQ a0 a1 a2 a3 a4 b0 b1;go_wp2;exact Hend.out
     ·have D : Hid (∀ w1 : World, More w w1 -> Calls Tryz.prog 7 #[sv] w1 fun e w' => e = .returned (.bool false) /\ More w1 w') := CS.out false ⟨fun q => absurd q (by simp), fun q => absurd q hS⟩
      clear CS CK CH HS;go_wp2_with (fail)
      refine (D.out _ Hm4.out).mono ?_;rintro e w5 ⟨rfl, m_⟩;have Hend : Hid (P (.returned (.bool true)) w5) := HP.out _ (Hm4.out.trans m_);clear m_ D;go_wp2;exact Hend.out
    ·have D : Hid (∀ w1 : World, More w w1 -> Calls Tryz.prog 6 #[.agg #[.slice ra rl rc, .slice ca cl cc], mv, nv] w1 fun e w' => e = .returned (.bool false) /\ More w1 w') := CU.out HO.out.1 hA hB false ⟨fun q => absurd q (by simp), fun q => absurd q hU⟩
     clear CU CS CK CH HS;go_wp2_with (fail)
     refine (D.out _ Hm3.out).mono ?_;rintro e w4 ⟨rfl, m_⟩;have Hend : Hid (P (.returned (.bool true)) w4) := HP.out _ (Hm3.out.trans m_);clear m_ D;go_wp2;exact Hend.out
   ·have D : Hid (∀ w1 : World, More w w1 -> Calls Tryz.prog 5 #[.agg #[.slice ra rl rc, .slice ca cl cc], nv] w1 fun e w' => e = .returned (.bool false) /\ More w1 w') := CG.out false ⟨fun q => absurd q (by simp), fun q => absurd q hB⟩
    clear CG CU CS CK CH HS;go_wp2_with (fail)
    refine (D.out _ Hm2.out).mono ?_;rintro e w3 ⟨rfl, m_⟩;have Hend : Hid (P (.returned (.bool true)) w3) := HP.out _ (Hm2.out.trans m_);clear m_ D;go_wp2;exact Hend.out
  ·have D : Hid (∀ w1 : World, More w w1 -> Calls Tryz.prog 5 #[.agg #[.slice ra rl rc, .slice ca cl cc], mv] w1 fun e w' => e = .returned (.bool false) /\ More w1 w') := CF.out false ⟨fun q => absurd q (by simp), fun q => absurd q hA⟩
   clear CF CG CU CS CK CH HS;go_wp2_with (fail)
   refine (D.out _ (Hm1.out.alloc _ _)).mono ?_;rintro e w2 ⟨rfl, m_⟩;have Hend : Hid (P (.returned (.bool true)) w2) := HP.out _ ((Hm1.out.alloc _ _).trans m_);clear m_ D;go_wp2;exact Hend.out
 ·have e0 : (f1 == 0) = false := by simp [h0]
  have e1 : (f1 != 0) = true := by simp [h0]
  have Hend : Hid (∀ w', More w1 w' -> P (.returned (.bool true)) w') := fun w' m' => HP.out _ (Hm1.out.trans m')
  clear h0 CF CG CU CS CK CH HS HT;go_wp2;exact Hend.out _ ((More.refl _).alloc _ _)
end
end Go.Proofs.YtlbfbjeilfcjeaaGreat
