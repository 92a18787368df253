/-
  The texts CvCheck, Shape, InsBox, InsA, InsB, InsC, InsD, RefForm, CvTold, CkCopy, KnRef, KnRefA, KnRefB, one behind the other, with what is used of them.
-/
import Derived.Test.YtapagihngaiebaaGreatJoined3
import Derived.Test.YtapagihngaiebaaGreatRows
import Derived.WalkKit
import Derived.Deep.LoopGhost
import Derived.Test.YtapagihngaiebaaGreatJoined0
import Derived.Test.YtapagihngaiebaaGreatJoined1
import Derived.Test.YtapagihngaiebaaGreatProg
namespace Go.Proofs.YtapagihngaiebaaGreat
set_option maxHeartbeats 4000000
section
open Go.RowKit
set_option linter.unusedSimpArgs false
set_option linter.unusedVariables false
set_option maxRecDepth 8000
theorem Jbb (cl : Nat) (B : Nat) (w : World) (h : Blk w B (madeCells #[V 0, .bool false, V 0, .bool false, V 0, .bool false, V 0, .bool false, V 0, .bool false, V 0, .bool false, V 0, .bool false, V 0, .bool false, .bool false] (cl * 17)) 120) : PlS w B cl (fun _ => none) := by
 refine ⟨_, h, size_madeCells _ _, fun k j hk hj => ?_⟩;rw [Jlf];unfold madeCells;rw [Array.getElem?_map, Array.getElem?_range, if_pos (by omega)];have hm : (k * 17 + j) % 17 = j := by omega
 have hz : (#[V 0, .bool false, V 0, .bool false, V 0, .bool false, V 0, .bool false, V 0, .bool false, V 0, .bool false, V 0, .bool false, V 0, .bool false, .bool false] : Array Value).size = 17 := rfl;simp only [Option.map_some];rw [hz, hm];rw [getElem!_pos _ j (by omega), Array.getElem?_eq_getElem (by omega)]
theorem Jhj : ∃ i, Tryz.prog.info? 120 = some i /\ i.zero = some (.agg #[V 0, .bool false, V 0, .bool false, V 0, .bool false, V 0, .bool false, V 0, .bool false, V 0, .bool false, V 0, .bool false, V 0, .bool false, .bool false]) /\ i.size = 17 /\ i.bytes = 136 := by
 have h : (Tryz.prog.info? 120).map (fun i => (i.zero, i.size, i.bytes)) = some (some (.agg #[V 0, .bool false, V 0, .bool false, V 0, .bool false, V 0, .bool false, V 0, .bool false, V 0, .bool false, V 0, .bool false, V 0, .bool false, .bool false]), 17, 136) := by kernel_rfl
 obtain ⟨i, h1, h2⟩ := Option.map_eq_some_iff.1 h;simp only [Prod.mk.injEq] at h2;exact ⟨i, h1, h2.1, h2.2.1, h2.2.2⟩
theorem Jbj (cl : Nat) (h : cl <= 200) (w : World) : (Instr.makeSlice 80 (V (cl : Int)) (V (cl : Int))).run Tryz.prog w = .ok (.slice (some ⟨w.heap.size, 0, none⟩) cl cl) (w.alloc (.cells (madeCells #[V 0, .bool false, V 0, .bool false, V 0, .bool false, V 0, .bool false, V 0, .bool false, V 0, .bool false, V 0, .bool false, V 0, .bool false, .bool false] (cl * 17)) 120)) := by
 obtain ⟨i, h1, h2, h3, h4⟩ := Jhj;have := run_make (P := Tryz.prog) w 80 120 i (.agg #[V 0, .bool false, V 0, .bool false, V 0, .bool false, V 0, .bool false, V 0, .bool false, V 0, .bool false, V 0, .bool false, V 0, .bool false, .bool false]) Tryz.underlying80 h1 h2 .i64 .i64 cl cl (by omega) (Int.le_refl _) (by rw [h4]; omega) (by omega);rw [h3] at this;simp only [Int.toNat_natCast] at this;exact this
theorem Jkl : (Tryz.prog.info? 82).map (·.size) = some 4 := by kernel_rfl

structure ChB (w1 : World) (cl gM gB : Nat) (w' : World) : Prop where
 bM : Blk w' gM #[.slice none 0 0, .slice none 0 0, .slice none 0 0, .slice none 0 0] 82
 bB : Blk w' gB (madeCells #[V 0, .bool false, V 0, .bool false, V 0, .bool false, V 0, .bool false, V 0, .bool false, V 0, .bool false, V 0, .bool false, V 0, .bool false, .bool false] (cl * 17)) 120
 up : More w1 w'
 ltM : w1.heap.size <= gM
 ltB : w1.heap.size <= gB
 ne : gM ≠ gB

theorem Jd2 (p : Prg) (lo : Loc) (w : World) (hp : PIn w p lo) (hno : ¬ p.Ok 200 8) :
  Calls Tryz.prog 18 #[.agg #[.slice lo.ra p.rl lo.rc, .slice lo.ca p.cl lo.cc]] w fun e w' => e = .returned (.agg #[V 2, V 0]) /\ More w w' := by
 have cm : Calls Tryz.prog 32 #[.agg #[.slice lo.ra p.rl lo.rc, .slice lo.ca p.cl lo.cc]] ((w.alloc (.cells #[.slice lo.ra p.rl lo.rc, .slice lo.ca p.cl lo.cc] 25)).alloc (.cells #[V 0, V 0] 30)) fun e w' => e = .returned (.bool false) /\ More ((w.alloc (.cells #[.slice lo.ra p.rl lo.rc, .slice lo.ca p.cl lo.cc] 25)).alloc (.cells #[V 0, V 0] 30)) w' := by
  refine (J9s p lo _ (hp.more (((More.refl _).alloc _ _).alloc _ _))).mono ?_;rintro e w' ⟨r, rfl, hr, m⟩;cases r with
  | false => exact ⟨rfl, m⟩
  | true => exact absurd (hr.1 rfl) hno
 clear hp hno;go_enter Tryz.func18, Tryz.ntmps18;go_wp2_with (fail)
 refine cm.mono ?_;rintro e w1 ⟨rfl, m1⟩;have HR : Hid (Blk w1 (w.heap.size + 1) #[V 0, V 0] 30 /\ More w w1) := ⟨(by simpa using Blk.last (w.alloc (.cells #[.slice lo.ra p.rl lo.rc, .slice lo.ca p.cl lo.cc] 25)) #[V 0, V 0] 30 : Blk _ (w.heap.size + 1) _ _).more m1, (((More.refl _).alloc _ _).alloc _ _).trans m1⟩;have t0 := HR.out.1.cell (j := 0) rfl;have t1 := HR.out.1.cell (j := 1) rfl;have u0 := HR.out.1.frozen 0;have u1 := HR.out.1.frozen 1;clear m1 cm;go_wp2;refine bodyPost_ret (by simp [results, Tryz.results18, go_sem, *]) rfl ⟨rfl, ?_⟩;exact (HR.out.2.setCell (by dsimp only; omega) _).setCell (by dsimp only; omega) _

theorem J7i (p : Prg) (lo : Loc) (w : World) (hp : PIn w p lo) (hok : p.Ok 200 8) (hnr : ∀ i, i < p.cl -> -9223372036854775808 <= (p.ins i).n /\ (p.ins i).n <= 9223372036854775807) :
  Calls Tryz.prog 18 #[.agg #[.slice lo.ra p.rl lo.rc, .slice lo.ca p.cl lo.cc]] w fun e w' => ∃ l, Known p l /\ e = .returned (.agg #[V (J09 p l).1, V (J09 p l).2]) /\ More w w' := by
 suffices hP : ∀ P : Ending -> World -> Prop, (∀ l, Known p l -> ∀ w', More w w' -> P (.returned (.agg #[V (J09 p l).1, V (J09 p l).2])) w') -> Calls Tryz.prog 18 #[.agg #[.slice lo.ra p.rl lo.rc, .slice lo.ca p.cl lo.cc]] w P from hP _ (fun l h1 w' h2 => ⟨l, h1, rfl, h2⟩)
 intro P hP0;have HP : Hid (∀ l, Known p l -> ∀ w', More w w' -> P (.returned (.agg #[V (J09 p l).1, V (J09 p l).2])) w') := hP0;clear hP0;have H : Hid (PIn w p lo /\ p.Ok 200 8 /\ ∀ i, i < p.cl -> -9223372036854775808 <= (p.ins i).n /\ (p.ins i).n <= 9223372036854775807) := ⟨hp, hok, hnr⟩
 have cm : Calls Tryz.prog 32 #[.agg #[.slice lo.ra p.rl lo.rc, .slice lo.ca p.cl lo.cc]] ((w.alloc (.cells #[.slice lo.ra p.rl lo.rc, .slice lo.ca p.cl lo.cc] 25)).alloc (.cells #[V 0, V 0] 30)) fun e w' => e = .returned (.bool true) /\ More ((w.alloc (.cells #[.slice lo.ra p.rl lo.rc, .slice lo.ca p.cl lo.cc] 25)).alloc (.cells #[V 0, V 0] 30)) w' := by
  refine (J9s p lo _ (hp.more (((More.refl _).alloc _ _).alloc _ _))).mono ?_;rintro e w' ⟨r, rfl, hr, m⟩;cases r with
  | true => exact ⟨rfl, m⟩
  | false => exact absurd (hr.2 hok) (by simp)
 have hcl : p.cl <= 200 := hok.2.2.1;clear hp hok hnr;obtain ⟨cl, Hcl⟩ : ∃ x, Hid (p.cl = x) := ⟨_, rfl⟩;rw [Hcl.out] at hcl cm |-;have hi2 : ((cl : Int) <= 200) := by omega
 have hmk := Jbj cl hcl;obtain ⟨Zs, hZs⟩ : ∃ x, madeCells #[V 0, .bool false, V 0, .bool false, V 0, .bool false, V 0, .bool false, V 0, .bool false, V 0, .bool false, V 0, .bool false, V 0, .bool false, .bool false] (cl * 17) = x := ⟨_, rfl⟩;have HZs : Hid (madeCells #[V 0, .bool false, V 0, .bool false, V 0, .bool false, V 0, .bool false, V 0, .bool false, V 0, .bool false, V 0, .bool false, V 0, .bool false, .bool false] (cl * 17) = Zs) := hZs;rw [hZs] at hmk;clear hZs;obtain ⟨ra, Hra⟩ : ∃ x, Hid (lo.ra = x) := ⟨_, rfl⟩;obtain ⟨rl, Hrl⟩ : ∃ x, Hid (p.rl = x) := ⟨_, rfl⟩;obtain ⟨rc, Hrc⟩ : ∃ x, Hid (lo.rc = x) := ⟨_, rfl⟩;obtain ⟨ca, Hca⟩ : ∃ x, Hid (lo.ca = x) := ⟨_, rfl⟩;obtain ⟨cc, Hcc⟩ : ∃ x, Hid (lo.cc = x) := ⟨_, rfl⟩;rw [Hra.out, Hrl.out, Hrc.out, Hca.out, Hcc.out] at cm |-;go_enter Tryz.func18, Tryz.ntmps18;go_wp2_with (fail)
 refine cm.mono ?_;rintro e w1 ⟨rfl, m1⟩;have HR : Hid (Blk w1 w.heap.size #[.slice ra rl rc, .slice ca cl cc] 25 /\ Blk w1 (w.heap.size + 1) #[V 0, V 0] 30 /\ More w w1) := ⟨((Blk.last _ _ _).alloc _ _).more m1, (by simpa using Blk.last (w.alloc (.cells #[.slice ra rl rc, .slice ca cl cc] 25)) #[V 0, V 0] 30 : Blk _ (w.heap.size + 1) _ _).more m1, (((More.refl _).alloc _ _).alloc _ _).trans m1⟩;have Hpin : Hid (PIn w1 p lo) := H.out.1.more HR.out.2.2;clear m1 cm;obtain ⟨S, HS⟩ : ∃ S : World -> Prop, Hid (∀ w', S w' ↔ More w1 w') := ⟨_, fun _ => Iff.rfl⟩;have HS0 : S w1.drew := (HS.out _).2 (More.refl _).drew;have hne : Nonempty { w' // S w' } := ⟨⟨_, HS0⟩⟩;have k0 : ∀ i : { w' // S w' }, i.val.cell? ⟨w.heap.size, 0, none⟩ = some (.slice ra rl rc) := fun i => (HR.out.1.more ((HS.out _).1 i.property)).cell rfl
 have k1 : ∀ i : { w' // S w' }, i.val.cell? ⟨w.heap.size, 1, none⟩ = some (.slice ca cl cc) := fun i => (HR.out.1.more ((HS.out _).1 i.property)).cell rfl
 go_wp2_with (fail)
 refine J1m (S := S) (by kernel_rfl) HS0 ?_;refine J08 0 rfl (by kernel_rfl) HS0 (by kernel_rfl) (fun K hK => ?_); go_simp; refine hK _ _ ?_; clear hK K;refine J08 1 rfl (by kernel_rfl) HS0 (by kernel_rfl) (fun K hK => ?_); go_simp; refine hK _ _ ?_; clear hK K;refine J08 2 rfl (by kernel_rfl) HS0 (by kernel_rfl) (fun K hK => ?_); go_simp; refine hK _ _ ?_; clear hK K;refine J08 3 rfl (by kernel_rfl) HS0 (by kernel_rfl) (fun K hK => ?_); go_simp; refine hK _ _ ?_; clear hK K;obtain ⟨wd, Hwd⟩ : ∃ wd : World, Hid (wd = w1.drew) := ⟨_, rfl⟩;have Hmwd : Hid (More w1 wd) := Hwd.out ▸ (More.refl w1).drew;rw [<- Hwd.out];clear k0 k1;apply Jc8
 ·intro key
  refine J3o 4 6 (by kernel_rfl) ?_ ?_
  ·refine J0a rfl (by kernel_rfl) (fun K hK => ?_); go_simp
   obtain ⟨w2, Hw2⟩ : ∃ w_ : World, Hid (w_ = wd.alloc (.cells Zs 120)) := ⟨_, rfl⟩;have m2 : More wd w2 := Hw2.out ▸ (More.refl _).alloc _ _;have Hm2 : Hid (More w1 w2) := Hmwd.out.trans m2;have Hb2 : Hid (Blk w2 wd.heap.size Zs 120) := Hw2.out ▸ Blk.last _ _ _;rw [<- Hw2.out];clear m2 Hw2;have HS2 : S w2 := (HS.out _).2 Hm2.out;refine hK _ _ HS2 ?_; clear hK K;refine J08 5 rfl (by kernel_rfl) HS2 (by kernel_rfl) (fun K hK => ?_); go_simp; refine hK _ _ ?_; clear hK K;refine J0x 6 (by kernel_rfl) ?_;refine J0a rfl (by kernel_rfl) (fun K hK => ?_); go_simp;obtain ⟨w3, Hw3⟩ : ∃ w_ : World, Hid (w_ = w2.alloc (.cells #[.slice none 0 0, .slice none 0 0, .slice none 0 0, .slice none 0 0] 82)) := ⟨_, rfl⟩;have m3 : More w2 w3 := Hw3.out ▸ (More.refl _).alloc _ _;have Hm3 : Hid (More w1 w3) := Hm2.out.trans m3;have Hb3 : Hid (Blk w3 w2.heap.size #[.slice none 0 0, .slice none 0 0, .slice none 0 0, .slice none 0 0] 82) := Hw3.out ▸ Blk.last _ _ _;have F : Hid (ChB w1 cl w2.heap.size wd.heap.size w3) := ⟨Hb3.out, HZs.out ▸ Hb2.out.more m3, Hm3.out, Hm2.out.size, Hmwd.out.size, Nat.ne_of_gt Hb2.out.lt⟩;rw [<- Hw3.out];clear m3 Hw3;refine hK _ _ ((HS.out _).2 Hm3.out) ?_; clear hK K;refine J1p (listed' := #[true, true, true, true, true, true, true, false]) (by kernel_rfl) ?_;clear Hb2 Hm2 HS2 Hm3 Hb3;generalize w2.heap.size = gM at F |-;generalize wd.heap.size = gB at F |-;clear w2
   revert w3 gM gB
   exact key
  ·refine J0a rfl (by kernel_rfl) (fun K hK => ?_); go_simp
   obtain ⟨w2, Hw2⟩ : ∃ w_ : World, Hid (w_ = wd.alloc (.cells #[.slice none 0 0, .slice none 0 0, .slice none 0 0, .slice none 0 0] 82)) := ⟨_, rfl⟩;have m2 : More wd w2 := Hw2.out ▸ (More.refl _).alloc _ _;have Hm2 : Hid (More w1 w2) := Hmwd.out.trans m2;have Hb2 : Hid (Blk w2 wd.heap.size #[.slice none 0 0, .slice none 0 0, .slice none 0 0, .slice none 0 0] 82) := Hw2.out ▸ Blk.last _ _ _;rw [<- Hw2.out];clear m2 Hw2;refine hK _ _ ((HS.out _).2 Hm2.out) ?_; clear hK K;refine J0x 4 (by kernel_rfl) ?_;refine J0a rfl (by kernel_rfl) (fun K hK => ?_); go_simp;obtain ⟨w3, Hw3⟩ : ∃ w_ : World, Hid (w_ = w2.alloc (.cells Zs 120)) := ⟨_, rfl⟩;have m3 : More w2 w3 := Hw3.out ▸ (More.refl _).alloc _ _;have Hm3 : Hid (More w1 w3) := Hm2.out.trans m3;have Hb3 : Hid (Blk w3 w2.heap.size Zs 120) := Hw3.out ▸ Blk.last _ _ _;have F : Hid (ChB w1 cl wd.heap.size w2.heap.size w3) := ⟨Hb2.out.more m3, HZs.out ▸ Hb3.out, Hm3.out, Hmwd.out.size, Hm2.out.size, Nat.ne_of_lt Hb2.out.lt⟩;rw [<- Hw3.out];clear m3 Hw3;have HS3 : S w3 := (HS.out _).2 Hm3.out;refine hK _ _ HS3 ?_; clear hK K;refine J08 5 rfl (by kernel_rfl) HS3 (by kernel_rfl) (fun K hK => ?_); go_simp; refine hK _ _ ?_; clear hK K;refine J1p (listed' := #[true, true, true, true, true, true, true, false]) (by kernel_rfl) ?_;exact key _ _ _ F
 ·intro w3 gM gB F
  obtain ⟨w4, Hw4⟩ : ∃ w_ : World, Hid (w_ = w3.setRow gM #[.slice ra rl rc, .slice ca cl cc, .slice (some ⟨gB, 0, none⟩) cl cl, .slice none 0 0]) := ⟨_, rfl⟩
  have Hck : Hid (Ck w1 p lo gM gB (fun _ => none) [] (.slice none 0 0) w4) := by
   rw [Hw4.out];refine ⟨?_, World.ownsRow_nil _ _ _ _, ?_, F.out.up.setRow F.out.ltM _, Hpin.out, ⟨F.out.ltM, F.out.ltB⟩⟩
   ·rw [Hra.out, Hrl.out, Hrc.out, Hca.out, Hcc.out, Hcl.out]
    exact F.out.bM.setRow _
   ·rw [Hcl.out]
    exact Jbb cl gB _ (F.out.bB.setRow_other F.out.ne.symm _)
  refine J0x 7 (by kernel_rfl) ?_;refine J0a rfl (by kernel_rfl) (fun K hK => ?_);refine wp_store_row 82 (.tmp 3) (.tmp 13) rfl gM #[.slice ra rl rc, .slice ca cl cc, .slice (some ⟨gB, 0, none⟩) cl cl, .slice none 0 0] rfl rfl 82 _ F.out.bM Jkl rfl (by simp [Value.oneCell']) ?_;rw [<- Hw4.out];refine hK _ _ ((HS.out _).2 Hck.out.up) ?_; clear hK K;refine J3y (by kernel_rfl) ?_;clear hne HS0;have c1 := Jb9 Hck.out H.out.2.1 H.out.2.2;go_wp2_with (fail)
  refine c1.mono ?_;rintro e w5 ⟨rfl, kp5, l, tv, hk5, ck5⟩;have Hck5 : Hid (Ck w1 p lo gM gB l [] tv w5 /\ Known p l) := ⟨ck5, hk5⟩;have c2 : Calls Tryz.prog 34 #[.pointer (some ⟨gM, 0, none⟩)] w5 fun e w' => e = .returned (.agg #[V (J09 p l).1, V (J09 p l).2]) /\ More w5 w' := Jaq ck5 H.out.2.1 H.out.2.2 (by simp)
  clear kp5 hk5 ck5 c1;have HP2 : Hid (∀ w', More w w' -> P (.returned (.agg #[V (J09 p l).1, V (J09 p l).2])) w') := HP.out l Hck5.out.2;obtain ⟨f, hf⟩ : ∃ x, J09 p l = x := ⟨_, rfl⟩;rw [hf] at c2 HP2;clear hf HP;obtain ⟨f1, f2⟩ := f;dsimp only at c2 HP2;go_wp2_with (fail)
  refine c2.mono ?_;rintro e w6 ⟨rfl, m6⟩;have HR6 : Hid (Blk w6 (w.heap.size + 1) #[V 0, V 0] 30 /\ More w w6) := ⟨HR.out.2.1.more (Hck5.out.1.up.trans m6), HR.out.2.2.trans (Hck5.out.1.up.trans m6)⟩;have t0 := HR6.out.1.cell (j := 0) rfl;have t1 := HR6.out.1.cell (j := 1) rfl;have u0 := HR6.out.1.frozen 0;have u1 := HR6.out.1.frozen 1;clear m6 c2;go_wp2;refine bodyPost_ret (v := .agg #[V f1, V f2]) (by simp [results, Tryz.results18, go_sem, *]) rfl (HP2.out _ ?_);exact (HR6.out.2.setCell (by dsimp only; omega) _).setCell (by dsimp only; omega) _
end
section
open Go.RowKit
def tri (x y z : Int) (j : Nat) : Int := if j = 0 then x else if j = 1 then y else z
theorem J0k {w : World} {g : Nat} {x y z : Int} (h0 : w.cell? ⟨g, 0, none⟩ = some (V x)) (h1 : w.cell? ⟨g, 1, none⟩ = some (V y)) (h2 : w.cell? ⟨g, 2, none⟩ = some (V z)) :
  ∀ j, j < 3 -> w.cell? ⟨g, j, none⟩ = some (V (tri x y z j)) := by
 intro j hj;have : j = 0 \/ j = 1 \/ j = 2 := by omega
 rcases this with rfl | rfl | rfl
 ·exact h0
 ·exact h1
 ·exact h2

def Shape (x y z : Int) (num : Bool) (w : World) (e : Ending) (w' : World) : Prop :=
 ∃ g : Nat, e = .returned (.tuple #[.slice (some ⟨g, 0, none⟩) 3 3, .bool num, .bool true]) /\ (∀ j, j < 3 -> w'.cell? ⟨g, j, none⟩ = some (V (tri x y z j))) /\ More w w'

theorem Jlh (w : World) : Calls Tryz.prog 69 #[V 1] w (Shape 1 0 0 true w) := by
 go_enter Tryz.func69, Tryz.ntmps69;go_wp2;go_ret3;exact ⟨w.heap.size, rfl, J0k (by go_simp) (by go_simp) (by go_simp), (More.refl _).alloc _ _⟩

theorem Jli (w : World) : Calls Tryz.prog 69 #[V 2] w (Shape 1 1 0 false w) := by
 go_enter Tryz.func69, Tryz.ntmps69;go_wp2;go_ret3;exact ⟨w.heap.size, rfl, J0k (by go_simp) (by go_simp) (by go_simp), (More.refl _).alloc _ _⟩

theorem Jlj (w : World) : Calls Tryz.prog 69 #[V 3] w (Shape 1 1 2 true w) := by
 go_enter Tryz.func69, Tryz.ntmps69;go_wp2;go_ret3;exact ⟨w.heap.size, rfl, J0k (by go_simp) (by go_simp) (by go_simp), (More.refl _).alloc _ _⟩

theorem Jlk (w : World) : Calls Tryz.prog 69 #[V 4] w (Shape 1 1 2 true w) := by
 go_enter Tryz.func69, Tryz.ntmps69;go_wp2;go_ret3;exact ⟨w.heap.size, rfl, J0k (by go_simp) (by go_simp) (by go_simp), (More.refl _).alloc _ _⟩

theorem Jll (w : World) : Calls Tryz.prog 69 #[V 5] w (Shape 1 0 2 true w) := by
 go_enter Tryz.func69, Tryz.ntmps69;go_wp2;go_ret3;exact ⟨w.heap.size, rfl, J0k (by go_simp) (by go_simp) (by go_simp), (More.refl _).alloc _ _⟩

theorem Jlm (w : World) : Calls Tryz.prog 69 #[V 6] w (Shape 1 0 2 true w) := by
 go_enter Tryz.func69, Tryz.ntmps69;go_wp2;go_ret3;exact ⟨w.heap.size, rfl, J0k (by go_simp) (by go_simp) (by go_simp), (More.refl _).alloc _ _⟩

theorem Jln (w : World) : Calls Tryz.prog 69 #[V 7] w (Shape 0 0 0 true w) := by
 go_enter Tryz.func69, Tryz.ntmps69;go_wp2;go_ret3;exact ⟨w.heap.size, rfl, J0k (by go_simp) (by go_simp) (by go_simp), (More.refl _).alloc _ _⟩

theorem Jlo (w : World) : Calls Tryz.prog 69 #[V 8] w (Shape 1 1 2 true w) := by
 go_enter Tryz.func69, Tryz.ntmps69;go_wp2;go_ret3;exact ⟨w.heap.size, rfl, J0k (by go_simp) (by go_simp) (by go_simp), (More.refl _).alloc _ _⟩

theorem Jlp (w : World) : Calls Tryz.prog 69 #[V 9] w (Shape 1 0 0 false w) := by
 go_enter Tryz.func69, Tryz.ntmps69;go_wp2;go_ret3;exact ⟨w.heap.size, rfl, J0k (by go_simp) (by go_simp) (by go_simp), (More.refl _).alloc _ _⟩

theorem Jiw (w : World) : Calls Tryz.prog 69 #[V 10] w (Shape 1 1 0 true w) := by
 go_enter Tryz.func69, Tryz.ntmps69;go_wp2;go_ret3;exact ⟨w.heap.size, rfl, J0k (by go_simp) (by go_simp) (by go_simp), (More.refl _).alloc _ _⟩

theorem Jix (w : World) : Calls Tryz.prog 69 #[V 11] w (Shape 1 0 0 true w) := by
 go_enter Tryz.func69, Tryz.ntmps69;go_wp2;go_ret3;exact ⟨w.heap.size, rfl, J0k (by go_simp) (by go_simp) (by go_simp), (More.refl _).alloc _ _⟩

theorem Jiy (w : World) : Calls Tryz.prog 69 #[V 12] w (Shape 0 0 0 false w) := by
 go_enter Tryz.func69, Tryz.ntmps69;go_wp2;go_ret3;exact ⟨w.heap.size, rfl, J0k (by go_simp) (by go_simp) (by go_simp), (More.refl _).alloc _ _⟩

theorem Jiz (op : Int) (h1 : 20 < op) (h2 : op <= 30) (w : World) : Calls Tryz.prog 69 #[V op] w (Shape 1 1 1 false w) := by
 go_enter Tryz.func69, Tryz.ntmps69;go_wp2;go_ret3;exact ⟨w.heap.size, rfl, J0k (by go_simp) (by go_simp) (by go_simp), (More.refl _).alloc _ _⟩

theorem Jdz (op : Int) (h1 : ¬ op = 1) (h2 : ¬ op = 2) (h3 : ¬ op = 3) (h4 : ¬ op = 4) (h5 : ¬ op = 5) (h6 : ¬ op = 6) (h7 : ¬ op = 7) (h8 : ¬ op = 8) (h9 : ¬ op = 9) (h10 : ¬ op = 10) (h11 : ¬ op = 11) (h12 : ¬ op = 12) (h : ¬ (20 < op /\ op <= 30)) (w : World) : Calls Tryz.prog 69 #[V op] w fun e w' => e = .returned (.tuple #[.slice none 0 0, .bool false, .bool false]) /\ w' = w := by
 by_cases h20 : 20 < op
 ·have h30 : ¬ op <= 30 := fun k => h ⟨h20, k⟩
  clear h;go_enter Tryz.func69, Tryz.ntmps69;go_wp2;go_ret3;exact ⟨rfl, rfl⟩
 ·clear h
  go_enter Tryz.func69, Tryz.ntmps69;go_wp2;go_ret3;exact ⟨rfl, rfl⟩

theorem J71 (ra : Option Addr) (rl rc : Nat) (ca : Option Addr) (cl cc : Nat) (b o : Nat) (log : Nat -> Int) (sec : Nat -> Bool) (w : World)
  (hra : 0 < rl -> ra = some ⟨b, o, none⟩) (hr : RegsAt w b o rl log sec) :
  Calls Tryz.prog 16 #[.agg #[.slice ra rl rc, .slice ca cl cc]] w (Says (J0h rl log) w) := by
 by_cases h6 : 6 < rl
 ·have Hr : Hid (RegsAt w b o rl log sec) := hr
  clear hr;have h6' : (6 : Int) < (rl : Int) := by omega
  go_enter Tryz.func16, Tryz.ntmps16;go_wp2;go_ret;exact Says.no (fun h => by have := h.1; omega) ((More.refl _).alloc _ _)
 ·have h6' : ¬ (6 : Int) < (rl : Int) := by omega
  have Hr : Hid (RegsAt w b o rl log sec) := hr;have Ha : Hid (0 < rl -> ra = some ⟨b, o, none⟩) := hra;clear hr hra;go_enter Tryz.func16, Tryz.ntmps16;go_wp2;go_loopg [3] rl (fun g i wr => ∃ k : Nat, k + g = rl /\ i = V k /\ (∀ j, j < k -> 0 <= log j /\ log j <= 6) /\ wr = w.alloc (.cells #[.slice ra rl rc, .slice ca cl cc] 25))
  case atStart => exact ⟨0, by omega, rfl, fun j hj => by omega, rfl⟩
  case round =>
   obtain ⟨k, hkg, rfl, hok, rfl⟩ := hrel;have Hok : Hid (∀ j, j < k -> 0 <= log j /\ log j <= 6) := hok;clear hok;cases gk with
   | zero =>
    obtain rfl : k = rl := by omega
    go_wp2;go_ret;exact Says.yes ⟨by omega, Hok.out⟩ ((More.refl _).alloc _ _)
   | succ g =>
    have hk : k < rl := by omega
    have hk' : (k : Int) < (rl : Int) := by omega
    obtain rfl := Ha.out (by omega);have hc0 := ((Hr.out.more ((More.refl _).alloc #[.slice (some ⟨b, o, none⟩) rl rc, .slice ca cl cc] 25)) k hk).1;by_cases hlo : log k < 0
    ·go_wp2
     go_ret;exact Says.no (fun h => by have := (h.2 k hk).1; omega) ((More.refl _).alloc _ _)
    ·by_cases hhi : 6 < log k
     ·go_wp2
      go_ret;exact Says.no (fun h => by have := (h.2 k hk).2; omega) ((More.refl _).alloc _ _)
     ·go_wp2
      go_roundg g
      case measure => omega
      case rel =>
       refine ⟨k + 1, by omega, by first | rfl | simp, fun j hj => ?_, rfl⟩;by_cases e : j = k
       ·subst e; omega
       ·exact Hok.out j (by omega)

theorem J72 (l : Int) (h0 : 0 <= l) (h1 : l <= 6) (s : Bool) (w : World) :
  Calls Tryz.prog 17 #[.agg #[V l, .bool s]] w fun e w' => e = .returned (V (J0c l)) /\ More w w' := by
 obtain ⟨n, rfl⟩ : ∃ n : Nat, l = n := ⟨l.toNat, by omega⟩;have hn : n <= 6 := by omega
 clear h0 h1;obtain ⟨R, HR⟩ : ∃ R, Hid (J0c (n : Int) = R) := ⟨_, rfl⟩;rw [HR.out];go_enter Tryz.func17, Tryz.ntmps17;go_wp2;go_loopg [3, 4] n (fun g nv i wr => ∃ (k : Nat) (m : Int), k + g = n /\ m = 2 ^ k /\ nv = V m /\ i = V k /\ wr = w.alloc (.cells #[V n, .bool s] 40))
 case atStart => exact ⟨0, 1, by omega, by decide, rfl, rfl, rfl⟩
 case round =>
  obtain ⟨k, m, hkg, hm, rfl, rfl, rfl⟩ := hrel;have hb := J2h (k := k) (by omega);rw [<- hm] at hb;have Hm : Hid (m = 2 ^ k) := hm;clear hm;obtain ⟨b0, b1⟩ := hb;cases gk with
  | zero =>
   obtain rfl : k = n := by omega
   go_wp2;go_ret;refine ⟨?_, (More.refl _).alloc _ _⟩;rw [Hm.out, <- HR.out];simp [J0c]
  | succ g =>
   have hk' : (k : Int) < (n : Int) := by omega
   go_wp2;go_roundg g
   case measure => omega
   case rel =>
    refine ⟨k + 1, m + m, by omega, by rw [Int.pow_succ, <- Hm.out]; omega, ?_, by first | rfl | simp, rfl⟩
    first | rfl | (simp; unfold wrap64; omega)
def Fld (regs l f : Int) : Prop := (l = 0 -> f = 0) /\ (l = 1 -> Reg regs f)

theorem J34 {w w1 : World} {x0 x1 y0 y1 y2 y3 y4 : Value} {t u : TypeId} (m : More ((w.alloc (.cells #[x0, x1] t)).alloc (.cells #[y0, y1, y2, y3, y4] u)) w1) :
  (w1.cell? ⟨w.heap.size, 0, none⟩ = some x0 /\ w1.cell? ⟨w.heap.size, 1, none⟩ = some x1) /\
  w1.cell? ⟨w.heap.size + 1, 0, none⟩ = some y0 /\ w1.cell? ⟨w.heap.size + 1, 1, none⟩ = some y1 /\ w1.cell? ⟨w.heap.size + 1, 2, none⟩ = some y2 /\ w1.cell? ⟨w.heap.size + 1, 3, none⟩ = some y3 /\ w1.cell? ⟨w.heap.size + 1, 4, none⟩ = some y4 := by
 refine ⟨⟨m.cell (by go_simp), m.cell (by go_simp)⟩, m.cell (by go_simp), m.cell (by go_simp), m.cell (by go_simp), m.cell (by go_simp), m.cell (by go_simp)⟩
set_option maxRecDepth 8000 in
theorem ins_1 (ra : Option Addr) (rl rc : Nat) (ca : Option Addr) (cl cc : Nat) (a b c n regs : Int) (w : World) (P : Prop) (HP : Hid (P ↔ (True /\ (∀ j, j < 3 -> Fld regs (tri 1 0 0 j) (tri a b c j)) /\ True))) :
  Calls Tryz.prog 43 #[.agg #[.slice ra rl rc, .slice ca cl cc], .agg #[V 1, V a, V b, V c, V n], V regs] w (Says P w) := by
 go_enter Tryz.func43, Tryz.ntmps43;go_wp2_with (fail)
 refine (Jlh _).mono ?_;rintro e w1 ⟨g, rfl, hg, m1⟩;obtain ⟨⟨c0, c1⟩, d0, d1, d2, d3, d4⟩ := J34 m1;have Hg : Hid (∀ j, j < 3 -> w1.cell? ⟨g, j, none⟩ = some (V (tri 1 0 0 j))) := hg;have Hm1 : Hid (More w w1) := (((More.refl _).alloc _ _).alloc _ _).trans m1;clear hg m1;have HN : Hid True := trivial;go_wp2;obtain ⟨W, HW⟩ : ∃ W : World, Hid (W = w1.alloc (.cells #[V a, V b, V c] 3)) := ⟨_, rfl⟩;have Hm1W : Hid (More w1 W) := HW.out ▸ (More.refl _).alloc _ _;have Hm : Hid (More w W) := Hm1.out.trans Hm1W.out;have Hf : Hid (∀ j, j < 3 -> W.cell? ⟨w1.heap.size, j, none⟩ = some (V (tri a b c j))) := by rw [HW.out]; exact J0k (by go_simp) (by go_simp) (by go_simp)
 have Hg' : Hid (∀ j, j < 3 -> W.cell? ⟨g, j, none⟩ = some (V (tri 1 0 0 j))) := fun j hj => Hm1W.out.cell (Hg.out j hj)
 clear Hg;replace c0 := Hm1W.out.cell c0;replace c1 := Hm1W.out.cell c1;replace d0 := Hm1W.out.cell d0;replace d1 := Hm1W.out.cell d1;replace d2 := Hm1W.out.cell d2;replace d3 := Hm1W.out.cell d3;replace d4 := Hm1W.out.cell d4;go_loopg [11] 3 (fun q i wr => ∃ k : Nat, k + q = 3 /\ i = V k /\ (∀ j, j < k -> Fld regs (tri 1 0 0 j) (tri a b c j)) /\ wr = W)
 case atStart => exact ⟨0, by omega, rfl, fun j hj => by omega, HW.out.symm⟩
 case round =>
  obtain ⟨k, hkg, rfl, hok, rfl⟩ := hrel;have Hok : Hid (∀ j, j < k -> Fld regs (tri 1 0 0 j) (tri a b c j)) := hok;clear hok;cases gk with
  | zero =>
   obtain rfl : k = 3 := by omega
   go_wp2;go_ret;exact Says.yes (HP.out.2 ⟨HN.out, Hok.out, trivial⟩) Hm.out
  | succ q =>
   clear d0 d1 d2 d3 d4 c0 c1;have hk : k < 3 := by omega
   have hk' : (k : Int) < 3 := by omega
   have hk0 : (0 : Int) <= (k : Int) := by omega
   have qg := Hg'.out k hk;have qf := Hf.out k hk;obtain ⟨x, hx⟩ : ∃ x, tri 1 0 0 k = x := ⟨_, rfl⟩;obtain ⟨y, hy⟩ : ∃ y, tri a b c k = y := ⟨_, rfl⟩;rw [hx] at qg;rw [hy] at qf;have HX : Hid (tri 1 0 0 k = x /\ tri a b c k = y) := ⟨hx, hy⟩;clear hx hy
   have step : Hid (Fld regs x y -> ∀ j, j < k + 1 -> Fld regs (tri 1 0 0 j) (tri a b c j)) := by
    intro h j hj;by_cases e : j = k
    ·subst e; rw [HX.out.1, HX.out.2]; exact h
    ·exact Hok.out j (by omega)
   have back : Hid ((∀ j, j < 3 -> Fld regs (tri 1 0 0 j) (tri a b c j)) -> Fld regs x y) := by
    intro h;have := h k hk;rw [HX.out.1, HX.out.2] at this;exact this
   by_cases hx0 : x = 0
   ·subst hx0
    by_cases hy0 : y = 0
    ·subst hy0
     go_wp2;go_roundg q
     case measure => omega
     case rel => exact ⟨k + 1, by omega, by first | rfl | simp, step.out ⟨fun _ => rfl, fun h => by simp at h⟩, rfl⟩
    ·have hy1 : (y != 0) = true := by simp [hy0]
     have Hy : Hid (¬ y = 0) := hy0;clear hy0;go_wp2;go_ret;exact Says.no (fun h => Hy.out ((back.out (HP.out.1 h).2.1).1 rfl)) Hm.out
   by_cases hx1 : x = 1
   ·subst hx1
    clear hx0;by_cases hy0 : y < 0
    ·have Hy : Hid (y < 0) := hy0
     go_wp2;go_ret;exact Says.no (fun h => by have := ((back.out (HP.out.1 h).2.1).2 rfl).1; have := Hy.out; omega) Hm.out
    by_cases hy1 : regs <= y
    ·have Hy : Hid (regs <= y) := hy1
     go_wp2;go_ret;exact Says.no (fun h => by have := ((back.out (HP.out.1 h).2.1).2 rfl).2; have := Hy.out; omega) Hm.out
    have Hy : Hid (Reg regs y) := ⟨by omega, by omega⟩;go_wp2;go_roundg q
    case measure => omega
    case rel => exact ⟨k + 1, by omega, by first | rfl | simp, step.out ⟨fun h => by simp at h, fun _ => Hy.out⟩, rfl⟩
   have Hx : Hid (¬ x = 0 /\ ¬ x = 1) := ⟨hx0, hx1⟩;have hx2 : (x == 0) = false := by simp [hx0]
   have hx3 : (x == 1) = false := by simp [hx1]
   clear hx0 hx1;go_wp2;go_roundg q
   case measure => omega
   case rel => exact ⟨k + 1, by omega, by first | rfl | simp, step.out ⟨fun h => absurd h Hx.out.1, fun h => absurd h Hx.out.2⟩, rfl⟩

set_option maxRecDepth 8000 in
theorem ins_2 (ra : Option Addr) (rl rc : Nat) (ca : Option Addr) (cl cc : Nat) (a b c n regs : Int) (w : World) (P : Prop) (HP : Hid (P ↔ (n = 0 /\ (∀ j, j < 3 -> Fld regs (tri 1 1 0 j) (tri a b c j)) /\ True))) :
  Calls Tryz.prog 43 #[.agg #[.slice ra rl rc, .slice ca cl cc], .agg #[V 2, V a, V b, V c, V n], V regs] w (Says P w) := by
 go_enter Tryz.func43, Tryz.ntmps43;go_wp2_with (fail)
 refine (Jli _).mono ?_;rintro e w1 ⟨g, rfl, hg, m1⟩;obtain ⟨⟨c0, c1⟩, d0, d1, d2, d3, d4⟩ := J34 m1;have Hg : Hid (∀ j, j < 3 -> w1.cell? ⟨g, j, none⟩ = some (V (tri 1 1 0 j))) := hg;have Hm1 : Hid (More w w1) := (((More.refl _).alloc _ _).alloc _ _).trans m1;clear hg m1;by_cases hn0 : n = 0
 rotate_left
 ·have HN : Hid (¬ n = 0) := hn0
  have hn1 : (n != 0) = true := by simp [hn0]
  clear hn0;go_wp2;go_ret;exact Says.no (fun h => HN.out (HP.out.1 h).1) Hm1.out
 have HN : Hid (n = 0) := hn0;have hn1 : (n != 0) = false := by simp [hn0]
 clear hn0;go_wp2;obtain ⟨W, HW⟩ : ∃ W : World, Hid (W = w1.alloc (.cells #[V a, V b, V c] 3)) := ⟨_, rfl⟩;have Hm1W : Hid (More w1 W) := HW.out ▸ (More.refl _).alloc _ _;have Hm : Hid (More w W) := Hm1.out.trans Hm1W.out;have Hf : Hid (∀ j, j < 3 -> W.cell? ⟨w1.heap.size, j, none⟩ = some (V (tri a b c j))) := by rw [HW.out]; exact J0k (by go_simp) (by go_simp) (by go_simp)
 have Hg' : Hid (∀ j, j < 3 -> W.cell? ⟨g, j, none⟩ = some (V (tri 1 1 0 j))) := fun j hj => Hm1W.out.cell (Hg.out j hj)
 clear Hg;replace c0 := Hm1W.out.cell c0;replace c1 := Hm1W.out.cell c1;replace d0 := Hm1W.out.cell d0;replace d1 := Hm1W.out.cell d1;replace d2 := Hm1W.out.cell d2;replace d3 := Hm1W.out.cell d3;replace d4 := Hm1W.out.cell d4;go_loopg [11] 3 (fun q i wr => ∃ k : Nat, k + q = 3 /\ i = V k /\ (∀ j, j < k -> Fld regs (tri 1 1 0 j) (tri a b c j)) /\ wr = W)
 case atStart => exact ⟨0, by omega, rfl, fun j hj => by omega, HW.out.symm⟩
 case round =>
  obtain ⟨k, hkg, rfl, hok, rfl⟩ := hrel;have Hok : Hid (∀ j, j < k -> Fld regs (tri 1 1 0 j) (tri a b c j)) := hok;clear hok;cases gk with
  | zero =>
   obtain rfl : k = 3 := by omega
   go_wp2;go_ret;exact Says.yes (HP.out.2 ⟨HN.out, Hok.out, trivial⟩) Hm.out
  | succ q =>
   clear d0 d1 d2 d3 d4 c0 c1;have hk : k < 3 := by omega
   have hk' : (k : Int) < 3 := by omega
   have hk0 : (0 : Int) <= (k : Int) := by omega
   have qg := Hg'.out k hk;have qf := Hf.out k hk;obtain ⟨x, hx⟩ : ∃ x, tri 1 1 0 k = x := ⟨_, rfl⟩;obtain ⟨y, hy⟩ : ∃ y, tri a b c k = y := ⟨_, rfl⟩;rw [hx] at qg;rw [hy] at qf;have HX : Hid (tri 1 1 0 k = x /\ tri a b c k = y) := ⟨hx, hy⟩;clear hx hy
   have step : Hid (Fld regs x y -> ∀ j, j < k + 1 -> Fld regs (tri 1 1 0 j) (tri a b c j)) := by
    intro h j hj;by_cases e : j = k
    ·subst e; rw [HX.out.1, HX.out.2]; exact h
    ·exact Hok.out j (by omega)
   have back : Hid ((∀ j, j < 3 -> Fld regs (tri 1 1 0 j) (tri a b c j)) -> Fld regs x y) := by
    intro h;have := h k hk;rw [HX.out.1, HX.out.2] at this;exact this
   by_cases hx0 : x = 0
   ·subst hx0
    by_cases hy0 : y = 0
    ·subst hy0
     go_wp2;go_roundg q
     case measure => omega
     case rel => exact ⟨k + 1, by omega, by first | rfl | simp, step.out ⟨fun _ => rfl, fun h => by simp at h⟩, rfl⟩
    ·have hy1 : (y != 0) = true := by simp [hy0]
     have Hy : Hid (¬ y = 0) := hy0;clear hy0;go_wp2;go_ret;exact Says.no (fun h => Hy.out ((back.out (HP.out.1 h).2.1).1 rfl)) Hm.out
   by_cases hx1 : x = 1
   ·subst hx1
    clear hx0;by_cases hy0 : y < 0
    ·have Hy : Hid (y < 0) := hy0
     go_wp2;go_ret;exact Says.no (fun h => by have := ((back.out (HP.out.1 h).2.1).2 rfl).1; have := Hy.out; omega) Hm.out
    by_cases hy1 : regs <= y
    ·have Hy : Hid (regs <= y) := hy1
     go_wp2;go_ret;exact Says.no (fun h => by have := ((back.out (HP.out.1 h).2.1).2 rfl).2; have := Hy.out; omega) Hm.out
    have Hy : Hid (Reg regs y) := ⟨by omega, by omega⟩;go_wp2;go_roundg q
    case measure => omega
    case rel => exact ⟨k + 1, by omega, by first | rfl | simp, step.out ⟨fun h => by simp at h, fun _ => Hy.out⟩, rfl⟩
   have Hx : Hid (¬ x = 0 /\ ¬ x = 1) := ⟨hx0, hx1⟩;have hx2 : (x == 0) = false := by simp [hx0]
   have hx3 : (x == 1) = false := by simp [hx1]
   clear hx0 hx1;go_wp2;go_roundg q
   case measure => omega
   case rel => exact ⟨k + 1, by omega, by first | rfl | simp, step.out ⟨fun h => absurd h Hx.out.1, fun h => absurd h Hx.out.2⟩, rfl⟩

set_option maxRecDepth 8000 in
theorem ins_9 (ra : Option Addr) (rl rc : Nat) (ca : Option Addr) (cl cc : Nat) (a b c n regs : Int) (w : World) (P : Prop) (HP : Hid (P ↔ (n = 0 /\ (∀ j, j < 3 -> Fld regs (tri 1 0 0 j) (tri a b c j)) /\ True))) :
  Calls Tryz.prog 43 #[.agg #[.slice ra rl rc, .slice ca cl cc], .agg #[V 9, V a, V b, V c, V n], V regs] w (Says P w) := by
 go_enter Tryz.func43, Tryz.ntmps43;go_wp2_with (fail)
 refine (Jlp _).mono ?_;rintro e w1 ⟨g, rfl, hg, m1⟩;obtain ⟨⟨c0, c1⟩, d0, d1, d2, d3, d4⟩ := J34 m1;have Hg : Hid (∀ j, j < 3 -> w1.cell? ⟨g, j, none⟩ = some (V (tri 1 0 0 j))) := hg;have Hm1 : Hid (More w w1) := (((More.refl _).alloc _ _).alloc _ _).trans m1;clear hg m1;by_cases hn0 : n = 0
 rotate_left
 ·have HN : Hid (¬ n = 0) := hn0
  have hn1 : (n != 0) = true := by simp [hn0]
  clear hn0;go_wp2;go_ret;exact Says.no (fun h => HN.out (HP.out.1 h).1) Hm1.out
 have HN : Hid (n = 0) := hn0;have hn1 : (n != 0) = false := by simp [hn0]
 clear hn0;go_wp2;obtain ⟨W, HW⟩ : ∃ W : World, Hid (W = w1.alloc (.cells #[V a, V b, V c] 3)) := ⟨_, rfl⟩;have Hm1W : Hid (More w1 W) := HW.out ▸ (More.refl _).alloc _ _;have Hm : Hid (More w W) := Hm1.out.trans Hm1W.out;have Hf : Hid (∀ j, j < 3 -> W.cell? ⟨w1.heap.size, j, none⟩ = some (V (tri a b c j))) := by rw [HW.out]; exact J0k (by go_simp) (by go_simp) (by go_simp)
 have Hg' : Hid (∀ j, j < 3 -> W.cell? ⟨g, j, none⟩ = some (V (tri 1 0 0 j))) := fun j hj => Hm1W.out.cell (Hg.out j hj)
 clear Hg;replace c0 := Hm1W.out.cell c0;replace c1 := Hm1W.out.cell c1;replace d0 := Hm1W.out.cell d0;replace d1 := Hm1W.out.cell d1;replace d2 := Hm1W.out.cell d2;replace d3 := Hm1W.out.cell d3;replace d4 := Hm1W.out.cell d4;go_loopg [11] 3 (fun q i wr => ∃ k : Nat, k + q = 3 /\ i = V k /\ (∀ j, j < k -> Fld regs (tri 1 0 0 j) (tri a b c j)) /\ wr = W)
 case atStart => exact ⟨0, by omega, rfl, fun j hj => by omega, HW.out.symm⟩
 case round =>
  obtain ⟨k, hkg, rfl, hok, rfl⟩ := hrel;have Hok : Hid (∀ j, j < k -> Fld regs (tri 1 0 0 j) (tri a b c j)) := hok;clear hok;cases gk with
  | zero =>
   obtain rfl : k = 3 := by omega
   go_wp2;go_ret;exact Says.yes (HP.out.2 ⟨HN.out, Hok.out, trivial⟩) Hm.out
  | succ q =>
   clear d0 d1 d2 d3 d4 c0 c1;have hk : k < 3 := by omega
   have hk' : (k : Int) < 3 := by omega
   have hk0 : (0 : Int) <= (k : Int) := by omega
   have qg := Hg'.out k hk;have qf := Hf.out k hk;obtain ⟨x, hx⟩ : ∃ x, tri 1 0 0 k = x := ⟨_, rfl⟩;obtain ⟨y, hy⟩ : ∃ y, tri a b c k = y := ⟨_, rfl⟩;rw [hx] at qg;rw [hy] at qf;have HX : Hid (tri 1 0 0 k = x /\ tri a b c k = y) := ⟨hx, hy⟩;clear hx hy
   have step : Hid (Fld regs x y -> ∀ j, j < k + 1 -> Fld regs (tri 1 0 0 j) (tri a b c j)) := by
    intro h j hj;by_cases e : j = k
    ·subst e; rw [HX.out.1, HX.out.2]; exact h
    ·exact Hok.out j (by omega)
   have back : Hid ((∀ j, j < 3 -> Fld regs (tri 1 0 0 j) (tri a b c j)) -> Fld regs x y) := by
    intro h;have := h k hk;rw [HX.out.1, HX.out.2] at this;exact this
   by_cases hx0 : x = 0
   ·subst hx0
    by_cases hy0 : y = 0
    ·subst hy0
     go_wp2;go_roundg q
     case measure => omega
     case rel => exact ⟨k + 1, by omega, by first | rfl | simp, step.out ⟨fun _ => rfl, fun h => by simp at h⟩, rfl⟩
    ·have hy1 : (y != 0) = true := by simp [hy0]
     have Hy : Hid (¬ y = 0) := hy0;clear hy0;go_wp2;go_ret;exact Says.no (fun h => Hy.out ((back.out (HP.out.1 h).2.1).1 rfl)) Hm.out
   by_cases hx1 : x = 1
   ·subst hx1
    clear hx0;by_cases hy0 : y < 0
    ·have Hy : Hid (y < 0) := hy0
     go_wp2;go_ret;exact Says.no (fun h => by have := ((back.out (HP.out.1 h).2.1).2 rfl).1; have := Hy.out; omega) Hm.out
    by_cases hy1 : regs <= y
    ·have Hy : Hid (regs <= y) := hy1
     go_wp2;go_ret;exact Says.no (fun h => by have := ((back.out (HP.out.1 h).2.1).2 rfl).2; have := Hy.out; omega) Hm.out
    have Hy : Hid (Reg regs y) := ⟨by omega, by omega⟩;go_wp2;go_roundg q
    case measure => omega
    case rel => exact ⟨k + 1, by omega, by first | rfl | simp, step.out ⟨fun h => by simp at h, fun _ => Hy.out⟩, rfl⟩
   have Hx : Hid (¬ x = 0 /\ ¬ x = 1) := ⟨hx0, hx1⟩;have hx2 : (x == 0) = false := by simp [hx0]
   have hx3 : (x == 1) = false := by simp [hx1]
   clear hx0 hx1;go_wp2;go_roundg q
   case measure => omega
   case rel => exact ⟨k + 1, by omega, by first | rfl | simp, step.out ⟨fun h => absurd h Hx.out.1, fun h => absurd h Hx.out.2⟩, rfl⟩
set_option maxRecDepth 8000 in
theorem ins_3 (ra : Option Addr) (rl rc : Nat) (ca : Option Addr) (cl cc : Nat) (a b c n regs : Int) (w : World) (P : Prop) (HP : Hid (P ↔ (True /\ (∀ j, j < 3 -> Fld regs (tri 1 1 2 j) (tri a b c j)) /\ Rgn rl c))) :
  Calls Tryz.prog 43 #[.agg #[.slice ra rl rc, .slice ca cl cc], .agg #[V 3, V a, V b, V c, V n], V regs] w (Says P w) := by
 go_enter Tryz.func43, Tryz.ntmps43;go_wp2_with (fail)
 refine (Jlj _).mono ?_;rintro e w1 ⟨g, rfl, hg, m1⟩;obtain ⟨⟨c0, c1⟩, d0, d1, d2, d3, d4⟩ := J34 m1;have Hg : Hid (∀ j, j < 3 -> w1.cell? ⟨g, j, none⟩ = some (V (tri 1 1 2 j))) := hg;have Hm1 : Hid (More w w1) := (((More.refl _).alloc _ _).alloc _ _).trans m1;clear hg m1;have HN : Hid True := trivial;go_wp2;obtain ⟨W, HW⟩ : ∃ W : World, Hid (W = w1.alloc (.cells #[V a, V b, V c] 3)) := ⟨_, rfl⟩;have Hm1W : Hid (More w1 W) := HW.out ▸ (More.refl _).alloc _ _;have Hm : Hid (More w W) := Hm1.out.trans Hm1W.out;have Hf : Hid (∀ j, j < 3 -> W.cell? ⟨w1.heap.size, j, none⟩ = some (V (tri a b c j))) := by rw [HW.out]; exact J0k (by go_simp) (by go_simp) (by go_simp)
 have Hg' : Hid (∀ j, j < 3 -> W.cell? ⟨g, j, none⟩ = some (V (tri 1 1 2 j))) := fun j hj => Hm1W.out.cell (Hg.out j hj)
 clear Hg;replace c0 := Hm1W.out.cell c0;replace c1 := Hm1W.out.cell c1;replace d0 := Hm1W.out.cell d0;replace d1 := Hm1W.out.cell d1;replace d2 := Hm1W.out.cell d2;replace d3 := Hm1W.out.cell d3;replace d4 := Hm1W.out.cell d4;go_loopg [11] 3 (fun q i wr => ∃ k : Nat, k + q = 3 /\ i = V k /\ (∀ j, j < k -> Fld regs (tri 1 1 2 j) (tri a b c j)) /\ wr = W)
 case atStart => exact ⟨0, by omega, rfl, fun j hj => by omega, HW.out.symm⟩
 case round =>
  obtain ⟨k, hkg, rfl, hok, rfl⟩ := hrel;have Hok : Hid (∀ j, j < k -> Fld regs (tri 1 1 2 j) (tri a b c j)) := hok;clear hok;cases gk with
  | zero =>
   obtain rfl : k = 3 := by omega
   by_cases t0 : 0 <= c
   ·by_cases t1 : c < (rl : Int)
    ·have T : Hid (0 <= c /\ c < (rl : Int)) := ⟨t0, t1⟩
     go_wp2;go_ret;exact ⟨_, rfl, ⟨fun _ => HP.out.2 ⟨HN.out, Hok.out, T.out⟩, fun _ => by first | rfl | (simp <;> omega)⟩, Hm.out⟩
    ·have T : Hid (¬ c < (rl : Int)) := t1
     go_wp2;go_ret;exact ⟨_, rfl, ⟨fun h => by first | (simp at h; done) | (simp at h; omega), fun h => by have h1 := (HP.out.1 h).2.2; have h2 := T.out; have h3 := h1.2; omega⟩, Hm.out⟩
   ·have T : Hid (¬ 0 <= c) := t0
    go_wp2;go_ret;exact ⟨_, rfl, ⟨fun h => by first | (simp at h; done) | (simp at h; omega), fun h => by have h1 := (HP.out.1 h).2.2; have h2 := T.out; have h3 := h1.1; omega⟩, Hm.out⟩
  | succ q =>
   clear d0 d1 d2 d3 d4 c0 c1;have hk : k < 3 := by omega
   have hk' : (k : Int) < 3 := by omega
   have hk0 : (0 : Int) <= (k : Int) := by omega
   have qg := Hg'.out k hk;have qf := Hf.out k hk;obtain ⟨x, hx⟩ : ∃ x, tri 1 1 2 k = x := ⟨_, rfl⟩;obtain ⟨y, hy⟩ : ∃ y, tri a b c k = y := ⟨_, rfl⟩;rw [hx] at qg;rw [hy] at qf;have HX : Hid (tri 1 1 2 k = x /\ tri a b c k = y) := ⟨hx, hy⟩;clear hx hy
   have step : Hid (Fld regs x y -> ∀ j, j < k + 1 -> Fld regs (tri 1 1 2 j) (tri a b c j)) := by
    intro h j hj;by_cases e : j = k
    ·subst e; rw [HX.out.1, HX.out.2]; exact h
    ·exact Hok.out j (by omega)
   have back : Hid ((∀ j, j < 3 -> Fld regs (tri 1 1 2 j) (tri a b c j)) -> Fld regs x y) := by
    intro h;have := h k hk;rw [HX.out.1, HX.out.2] at this;exact this
   by_cases hx0 : x = 0
   ·subst hx0
    by_cases hy0 : y = 0
    ·subst hy0
     go_wp2;go_roundg q
     case measure => omega
     case rel => exact ⟨k + 1, by omega, by first | rfl | simp, step.out ⟨fun _ => rfl, fun h => by simp at h⟩, rfl⟩
    ·have hy1 : (y != 0) = true := by simp [hy0]
     have Hy : Hid (¬ y = 0) := hy0;clear hy0;go_wp2;go_ret;exact Says.no (fun h => Hy.out ((back.out (HP.out.1 h).2.1).1 rfl)) Hm.out
   by_cases hx1 : x = 1
   ·subst hx1
    clear hx0;by_cases hy0 : y < 0
    ·have Hy : Hid (y < 0) := hy0
     go_wp2;go_ret;exact Says.no (fun h => by have := ((back.out (HP.out.1 h).2.1).2 rfl).1; have := Hy.out; omega) Hm.out
    by_cases hy1 : regs <= y
    ·have Hy : Hid (regs <= y) := hy1
     go_wp2;go_ret;exact Says.no (fun h => by have := ((back.out (HP.out.1 h).2.1).2 rfl).2; have := Hy.out; omega) Hm.out
    have Hy : Hid (Reg regs y) := ⟨by omega, by omega⟩;go_wp2;go_roundg q
    case measure => omega
    case rel => exact ⟨k + 1, by omega, by first | rfl | simp, step.out ⟨fun h => by simp at h, fun _ => Hy.out⟩, rfl⟩
   have Hx : Hid (¬ x = 0 /\ ¬ x = 1) := ⟨hx0, hx1⟩;have hx2 : (x == 0) = false := by simp [hx0]
   have hx3 : (x == 1) = false := by simp [hx1]
   clear hx0 hx1;go_wp2;go_roundg q
   case measure => omega
   case rel => exact ⟨k + 1, by omega, by first | rfl | simp, step.out ⟨fun h => absurd h Hx.out.1, fun h => absurd h Hx.out.2⟩, rfl⟩

set_option maxRecDepth 8000 in
theorem ins_4 (ra : Option Addr) (rl rc : Nat) (ca : Option Addr) (cl cc : Nat) (a b c n regs : Int) (w : World) (P : Prop) (HP : Hid (P ↔ (True /\ (∀ j, j < 3 -> Fld regs (tri 1 1 2 j) (tri a b c j)) /\ Rgn rl c))) :
  Calls Tryz.prog 43 #[.agg #[.slice ra rl rc, .slice ca cl cc], .agg #[V 4, V a, V b, V c, V n], V regs] w (Says P w) := by
 go_enter Tryz.func43, Tryz.ntmps43;go_wp2_with (fail)
 refine (Jlk _).mono ?_;rintro e w1 ⟨g, rfl, hg, m1⟩;obtain ⟨⟨c0, c1⟩, d0, d1, d2, d3, d4⟩ := J34 m1;have Hg : Hid (∀ j, j < 3 -> w1.cell? ⟨g, j, none⟩ = some (V (tri 1 1 2 j))) := hg;have Hm1 : Hid (More w w1) := (((More.refl _).alloc _ _).alloc _ _).trans m1;clear hg m1;have HN : Hid True := trivial;go_wp2;obtain ⟨W, HW⟩ : ∃ W : World, Hid (W = w1.alloc (.cells #[V a, V b, V c] 3)) := ⟨_, rfl⟩;have Hm1W : Hid (More w1 W) := HW.out ▸ (More.refl _).alloc _ _;have Hm : Hid (More w W) := Hm1.out.trans Hm1W.out;have Hf : Hid (∀ j, j < 3 -> W.cell? ⟨w1.heap.size, j, none⟩ = some (V (tri a b c j))) := by rw [HW.out]; exact J0k (by go_simp) (by go_simp) (by go_simp)
 have Hg' : Hid (∀ j, j < 3 -> W.cell? ⟨g, j, none⟩ = some (V (tri 1 1 2 j))) := fun j hj => Hm1W.out.cell (Hg.out j hj)
 clear Hg;replace c0 := Hm1W.out.cell c0;replace c1 := Hm1W.out.cell c1;replace d0 := Hm1W.out.cell d0;replace d1 := Hm1W.out.cell d1;replace d2 := Hm1W.out.cell d2;replace d3 := Hm1W.out.cell d3;replace d4 := Hm1W.out.cell d4;go_loopg [11] 3 (fun q i wr => ∃ k : Nat, k + q = 3 /\ i = V k /\ (∀ j, j < k -> Fld regs (tri 1 1 2 j) (tri a b c j)) /\ wr = W)
 case atStart => exact ⟨0, by omega, rfl, fun j hj => by omega, HW.out.symm⟩
 case round =>
  obtain ⟨k, hkg, rfl, hok, rfl⟩ := hrel;have Hok : Hid (∀ j, j < k -> Fld regs (tri 1 1 2 j) (tri a b c j)) := hok;clear hok;cases gk with
  | zero =>
   obtain rfl : k = 3 := by omega
   by_cases t0 : 0 <= c
   ·by_cases t1 : c < (rl : Int)
    ·have T : Hid (0 <= c /\ c < (rl : Int)) := ⟨t0, t1⟩
     go_wp2;go_ret;exact ⟨_, rfl, ⟨fun _ => HP.out.2 ⟨HN.out, Hok.out, T.out⟩, fun _ => by first | rfl | (simp <;> omega)⟩, Hm.out⟩
    ·have T : Hid (¬ c < (rl : Int)) := t1
     go_wp2;go_ret;exact ⟨_, rfl, ⟨fun h => by first | (simp at h; done) | (simp at h; omega), fun h => by have h1 := (HP.out.1 h).2.2; have h2 := T.out; have h3 := h1.2; omega⟩, Hm.out⟩
   ·have T : Hid (¬ 0 <= c) := t0
    go_wp2;go_ret;exact ⟨_, rfl, ⟨fun h => by first | (simp at h; done) | (simp at h; omega), fun h => by have h1 := (HP.out.1 h).2.2; have h2 := T.out; have h3 := h1.1; omega⟩, Hm.out⟩
  | succ q =>
   clear d0 d1 d2 d3 d4 c0 c1;have hk : k < 3 := by omega
   have hk' : (k : Int) < 3 := by omega
   have hk0 : (0 : Int) <= (k : Int) := by omega
   have qg := Hg'.out k hk;have qf := Hf.out k hk;obtain ⟨x, hx⟩ : ∃ x, tri 1 1 2 k = x := ⟨_, rfl⟩;obtain ⟨y, hy⟩ : ∃ y, tri a b c k = y := ⟨_, rfl⟩;rw [hx] at qg;rw [hy] at qf;have HX : Hid (tri 1 1 2 k = x /\ tri a b c k = y) := ⟨hx, hy⟩;clear hx hy
   have step : Hid (Fld regs x y -> ∀ j, j < k + 1 -> Fld regs (tri 1 1 2 j) (tri a b c j)) := by
    intro h j hj;by_cases e : j = k
    ·subst e; rw [HX.out.1, HX.out.2]; exact h
    ·exact Hok.out j (by omega)
   have back : Hid ((∀ j, j < 3 -> Fld regs (tri 1 1 2 j) (tri a b c j)) -> Fld regs x y) := by
    intro h;have := h k hk;rw [HX.out.1, HX.out.2] at this;exact this
   by_cases hx0 : x = 0
   ·subst hx0
    by_cases hy0 : y = 0
    ·subst hy0
     go_wp2;go_roundg q
     case measure => omega
     case rel => exact ⟨k + 1, by omega, by first | rfl | simp, step.out ⟨fun _ => rfl, fun h => by simp at h⟩, rfl⟩
    ·have hy1 : (y != 0) = true := by simp [hy0]
     have Hy : Hid (¬ y = 0) := hy0;clear hy0;go_wp2;go_ret;exact Says.no (fun h => Hy.out ((back.out (HP.out.1 h).2.1).1 rfl)) Hm.out
   by_cases hx1 : x = 1
   ·subst hx1
    clear hx0;by_cases hy0 : y < 0
    ·have Hy : Hid (y < 0) := hy0
     go_wp2;go_ret;exact Says.no (fun h => by have := ((back.out (HP.out.1 h).2.1).2 rfl).1; have := Hy.out; omega) Hm.out
    by_cases hy1 : regs <= y
    ·have Hy : Hid (regs <= y) := hy1
     go_wp2;go_ret;exact Says.no (fun h => by have := ((back.out (HP.out.1 h).2.1).2 rfl).2; have := Hy.out; omega) Hm.out
    have Hy : Hid (Reg regs y) := ⟨by omega, by omega⟩;go_wp2;go_roundg q
    case measure => omega
    case rel => exact ⟨k + 1, by omega, by first | rfl | simp, step.out ⟨fun h => by simp at h, fun _ => Hy.out⟩, rfl⟩
   have Hx : Hid (¬ x = 0 /\ ¬ x = 1) := ⟨hx0, hx1⟩;have hx2 : (x == 0) = false := by simp [hx0]
   have hx3 : (x == 1) = false := by simp [hx1]
   clear hx0 hx1;go_wp2;go_roundg q
   case measure => omega
   case rel => exact ⟨k + 1, by omega, by first | rfl | simp, step.out ⟨fun h => absurd h Hx.out.1, fun h => absurd h Hx.out.2⟩, rfl⟩

set_option maxRecDepth 8000 in
theorem Jmi (ra : Option Addr) (rl rc : Nat) (ca : Option Addr) (cl cc : Nat) (a b c n regs : Int) (w : World) (P : Prop) (HP : Hid (P ↔ (n = 0 /\ (∀ j, j < 3 -> Fld regs (tri 0 0 0 j) (tri a b c j)) /\ True))) :
  Calls Tryz.prog 43 #[.agg #[.slice ra rl rc, .slice ca cl cc], .agg #[V 12, V a, V b, V c, V n], V regs] w (Says P w) := by
 go_enter Tryz.func43, Tryz.ntmps43;go_wp2_with (fail)
 refine (Jiy _).mono ?_;rintro e w1 ⟨g, rfl, hg, m1⟩;obtain ⟨⟨c0, c1⟩, d0, d1, d2, d3, d4⟩ := J34 m1;have Hg : Hid (∀ j, j < 3 -> w1.cell? ⟨g, j, none⟩ = some (V (tri 0 0 0 j))) := hg;have Hm1 : Hid (More w w1) := (((More.refl _).alloc _ _).alloc _ _).trans m1;clear hg m1;by_cases hn0 : n = 0
 rotate_left
 ·have HN : Hid (¬ n = 0) := hn0
  have hn1 : (n != 0) = true := by simp [hn0]
  clear hn0;go_wp2;go_ret;exact Says.no (fun h => HN.out (HP.out.1 h).1) Hm1.out
 have HN : Hid (n = 0) := hn0;have hn1 : (n != 0) = false := by simp [hn0]
 clear hn0;go_wp2;obtain ⟨W, HW⟩ : ∃ W : World, Hid (W = w1.alloc (.cells #[V a, V b, V c] 3)) := ⟨_, rfl⟩;have Hm1W : Hid (More w1 W) := HW.out ▸ (More.refl _).alloc _ _;have Hm : Hid (More w W) := Hm1.out.trans Hm1W.out;have Hf : Hid (∀ j, j < 3 -> W.cell? ⟨w1.heap.size, j, none⟩ = some (V (tri a b c j))) := by rw [HW.out]; exact J0k (by go_simp) (by go_simp) (by go_simp)
 have Hg' : Hid (∀ j, j < 3 -> W.cell? ⟨g, j, none⟩ = some (V (tri 0 0 0 j))) := fun j hj => Hm1W.out.cell (Hg.out j hj)
 clear Hg;replace c0 := Hm1W.out.cell c0;replace c1 := Hm1W.out.cell c1;replace d0 := Hm1W.out.cell d0;replace d1 := Hm1W.out.cell d1;replace d2 := Hm1W.out.cell d2;replace d3 := Hm1W.out.cell d3;replace d4 := Hm1W.out.cell d4;go_loopg [11] 3 (fun q i wr => ∃ k : Nat, k + q = 3 /\ i = V k /\ (∀ j, j < k -> Fld regs (tri 0 0 0 j) (tri a b c j)) /\ wr = W)
 case atStart => exact ⟨0, by omega, rfl, fun j hj => by omega, HW.out.symm⟩
 case round =>
  obtain ⟨k, hkg, rfl, hok, rfl⟩ := hrel;have Hok : Hid (∀ j, j < k -> Fld regs (tri 0 0 0 j) (tri a b c j)) := hok;clear hok;cases gk with
  | zero =>
   obtain rfl : k = 3 := by omega
   go_wp2;go_ret;exact Says.yes (HP.out.2 ⟨HN.out, Hok.out, trivial⟩) Hm.out
  | succ q =>
   clear d0 d1 d2 d3 d4 c0 c1;have hk : k < 3 := by omega
   have hk' : (k : Int) < 3 := by omega
   have hk0 : (0 : Int) <= (k : Int) := by omega
   have qg := Hg'.out k hk;have qf := Hf.out k hk;obtain ⟨x, hx⟩ : ∃ x, tri 0 0 0 k = x := ⟨_, rfl⟩;obtain ⟨y, hy⟩ : ∃ y, tri a b c k = y := ⟨_, rfl⟩;rw [hx] at qg;rw [hy] at qf;have HX : Hid (tri 0 0 0 k = x /\ tri a b c k = y) := ⟨hx, hy⟩;clear hx hy
   have step : Hid (Fld regs x y -> ∀ j, j < k + 1 -> Fld regs (tri 0 0 0 j) (tri a b c j)) := by
    intro h j hj;by_cases e : j = k
    ·subst e; rw [HX.out.1, HX.out.2]; exact h
    ·exact Hok.out j (by omega)
   have back : Hid ((∀ j, j < 3 -> Fld regs (tri 0 0 0 j) (tri a b c j)) -> Fld regs x y) := by
    intro h;have := h k hk;rw [HX.out.1, HX.out.2] at this;exact this
   by_cases hx0 : x = 0
   ·subst hx0
    by_cases hy0 : y = 0
    ·subst hy0
     go_wp2;go_roundg q
     case measure => omega
     case rel => exact ⟨k + 1, by omega, by first | rfl | simp, step.out ⟨fun _ => rfl, fun h => by simp at h⟩, rfl⟩
    ·have hy1 : (y != 0) = true := by simp [hy0]
     have Hy : Hid (¬ y = 0) := hy0;clear hy0;go_wp2;go_ret;exact Says.no (fun h => Hy.out ((back.out (HP.out.1 h).2.1).1 rfl)) Hm.out
   by_cases hx1 : x = 1
   ·subst hx1
    clear hx0;by_cases hy0 : y < 0
    ·have Hy : Hid (y < 0) := hy0
     go_wp2;go_ret;exact Says.no (fun h => by have := ((back.out (HP.out.1 h).2.1).2 rfl).1; have := Hy.out; omega) Hm.out
    by_cases hy1 : regs <= y
    ·have Hy : Hid (regs <= y) := hy1
     go_wp2;go_ret;exact Says.no (fun h => by have := ((back.out (HP.out.1 h).2.1).2 rfl).2; have := Hy.out; omega) Hm.out
    have Hy : Hid (Reg regs y) := ⟨by omega, by omega⟩;go_wp2;go_roundg q
    case measure => omega
    case rel => exact ⟨k + 1, by omega, by first | rfl | simp, step.out ⟨fun h => by simp at h, fun _ => Hy.out⟩, rfl⟩
   have Hx : Hid (¬ x = 0 /\ ¬ x = 1) := ⟨hx0, hx1⟩;have hx2 : (x == 0) = false := by simp [hx0]
   have hx3 : (x == 1) = false := by simp [hx1]
   clear hx0 hx1;go_wp2;go_roundg q
   case measure => omega
   case rel => exact ⟨k + 1, by omega, by first | rfl | simp, step.out ⟨fun h => absurd h Hx.out.1, fun h => absurd h Hx.out.2⟩, rfl⟩
set_option maxRecDepth 8000 in
theorem ins_5 (ra : Option Addr) (rl rc : Nat) (ca : Option Addr) (cl cc : Nat) (a b c n regs : Int) (w : World) (rb ro : Nat) (log : Nat -> Int) (sec : Nat -> Bool) (hra : 0 < rl -> ra = some ⟨rb, ro, none⟩) (hr : RegsAt w rb ro rl log sec) (hok : J0h rl log) (P : Prop) (HP : Hid (P ↔ (True /\ (∀ j, j < 3 -> Fld regs (tri 1 0 2 j) (tri a b c j)) /\ Rgn rl c /\ Wrd log c n))) :
  Calls Tryz.prog 43 #[.agg #[.slice ra rl rc, .slice ca cl cc], .agg #[V 5, V a, V b, V c, V n], V regs] w (Says P w) := by
 have Hr : Hid ((0 < rl -> ra = some ⟨rb, ro, none⟩) /\ RegsAt w rb ro rl log sec /\ J0h rl log) := ⟨hra, hr, hok⟩;clear hra hr hok;go_enter Tryz.func43, Tryz.ntmps43;go_wp2_with (fail)
 refine (Jll _).mono ?_;rintro e w1 ⟨g, rfl, hg, m1⟩;obtain ⟨⟨c0, c1⟩, d0, d1, d2, d3, d4⟩ := J34 m1;have Hg : Hid (∀ j, j < 3 -> w1.cell? ⟨g, j, none⟩ = some (V (tri 1 0 2 j))) := hg;have Hm1 : Hid (More w w1) := (((More.refl _).alloc _ _).alloc _ _).trans m1;clear hg m1;have HN : Hid True := trivial;go_wp2;obtain ⟨W, HW⟩ : ∃ W : World, Hid (W = w1.alloc (.cells #[V a, V b, V c] 3)) := ⟨_, rfl⟩;have Hm1W : Hid (More w1 W) := HW.out ▸ (More.refl _).alloc _ _;have Hm : Hid (More w W) := Hm1.out.trans Hm1W.out;have Hf : Hid (∀ j, j < 3 -> W.cell? ⟨w1.heap.size, j, none⟩ = some (V (tri a b c j))) := by rw [HW.out]; exact J0k (by go_simp) (by go_simp) (by go_simp)
 have Hg' : Hid (∀ j, j < 3 -> W.cell? ⟨g, j, none⟩ = some (V (tri 1 0 2 j))) := fun j hj => Hm1W.out.cell (Hg.out j hj)
 clear Hg;replace c0 := Hm1W.out.cell c0;replace c1 := Hm1W.out.cell c1;replace d0 := Hm1W.out.cell d0;replace d1 := Hm1W.out.cell d1;replace d2 := Hm1W.out.cell d2;replace d3 := Hm1W.out.cell d3;replace d4 := Hm1W.out.cell d4;go_loopg [11] 3 (fun q i wr => ∃ k : Nat, k + q = 3 /\ i = V k /\ (∀ j, j < k -> Fld regs (tri 1 0 2 j) (tri a b c j)) /\ wr = W)
 case atStart => exact ⟨0, by omega, rfl, fun j hj => by omega, HW.out.symm⟩
 case round =>
  obtain ⟨k, hkg, rfl, hok, rfl⟩ := hrel;have Hok : Hid (∀ j, j < k -> Fld regs (tri 1 0 2 j) (tri a b c j)) := hok;clear hok;cases gk with
  | zero =>
   obtain rfl : k = 3 := by omega
   by_cases t0 : c < 0
   ·have T : Hid (c < 0) := t0
    go_wp2;go_ret;exact ⟨_, rfl, ⟨fun h => by first | (simp at h; done) | (simp at h; omega), fun h => by have h1 := (HP.out.1 h).2.2; have h2 := T.out; have h3 := h1.1.1; omega⟩, Hm.out⟩
   by_cases t1 : (rl : Int) <= c
   ·have T : Hid ((rl : Int) <= c) := t1
    go_wp2;go_ret;exact ⟨_, rfl, ⟨fun h => by first | (simp at h; done) | (simp at h; omega), fun h => by have h1 := (HP.out.1 h).2.2; have h2 := T.out; have h3 := h1.1.2; omega⟩, Hm.out⟩
   have hk : c.toNat < rl := by omega
   have t0' : 0 <= c := by omega
   have t1' : c < (rl : Int) := by omega
   have Hrgn : Hid (Rgn rl c) := ⟨t0', t1'⟩;obtain rfl := Hr.out.1 (by omega);have q0 := ((Hr.out.2.1.more Hm.out) c.toNat hk).1;have q1 := ((Hr.out.2.1.more Hm.out) c.toNat hk).2;have Hlog : Hid (0 <= log c.toNat /\ log c.toNat <= 6) := Hr.out.2.2.2 c.toNat hk;obtain ⟨lk, hlk⟩ : ∃ x, log c.toNat = x := ⟨_, rfl⟩;rw [hlk] at q0 Hlog;have Hlk : Hid (log c.toNat = lk) := hlk;clear hlk;go_wp2_with (fail)
   obtain ⟨nw, hnw⟩ : ∃ x, J0c lk = x := ⟨_, rfl⟩;refine ((J72 lk Hlog.out.1 Hlog.out.2 (sec c.toNat) _)).mono ?_;rw [hnw];have Hnw : Hid (Wrd log c n ↔ (0 <= n /\ n < nw)) := by unfold Wrd; rw [Hlk.out, <- hnw]; exact Iff.rfl
   clear hnw q0 q1;rintro e w5 ⟨rfl, m5⟩;have d4' := m5.cell d4;clear d4 d3 d2 d1 d0 c0 c1;have Hm5 : Hid (More w w5) := Hm.out.trans m5;clear m5;by_cases t2 : 0 <= n
   ·by_cases t3 : n < nw
    ·have T : Hid (Wrd log c n) := Hnw.out.2 ⟨t2, t3⟩
     go_wp2;go_ret;exact ⟨_, rfl, ⟨fun _ => HP.out.2 ⟨HN.out, Hok.out, Hrgn.out, T.out⟩, fun _ => by first | rfl | (simp <;> omega)⟩, Hm5.out⟩
    ·have T : Hid (nw <= n) := (by omega : nw <= n)
     go_wp2;go_ret;exact ⟨_, rfl, ⟨fun h => by first | (simp at h; done) | (simp at h; omega), fun h => by have h1 := (HP.out.1 h).2.2; have h2 := T.out; have h3 := (Hnw.out.1 h1.2).2; omega⟩, Hm5.out⟩
   ·have T : Hid (n < 0) := (by omega : n < 0)
    go_wp2;go_ret;exact ⟨_, rfl, ⟨fun h => by first | (simp at h; done) | (simp at h; omega), fun h => by have h1 := (HP.out.1 h).2.2; have h2 := T.out; have h3 := (Hnw.out.1 h1.2).1; omega⟩, Hm5.out⟩
  | succ q =>
   clear d0 d1 d2 d3 d4 c0 c1;have hk : k < 3 := by omega
   have hk' : (k : Int) < 3 := by omega
   have hk0 : (0 : Int) <= (k : Int) := by omega
   have qg := Hg'.out k hk;have qf := Hf.out k hk;obtain ⟨x, hx⟩ : ∃ x, tri 1 0 2 k = x := ⟨_, rfl⟩;obtain ⟨y, hy⟩ : ∃ y, tri a b c k = y := ⟨_, rfl⟩;rw [hx] at qg;rw [hy] at qf;have HX : Hid (tri 1 0 2 k = x /\ tri a b c k = y) := ⟨hx, hy⟩;clear hx hy
   have step : Hid (Fld regs x y -> ∀ j, j < k + 1 -> Fld regs (tri 1 0 2 j) (tri a b c j)) := by
    intro h j hj;by_cases e : j = k
    ·subst e; rw [HX.out.1, HX.out.2]; exact h
    ·exact Hok.out j (by omega)
   have back : Hid ((∀ j, j < 3 -> Fld regs (tri 1 0 2 j) (tri a b c j)) -> Fld regs x y) := by
    intro h;have := h k hk;rw [HX.out.1, HX.out.2] at this;exact this
   by_cases hx0 : x = 0
   ·subst hx0
    by_cases hy0 : y = 0
    ·subst hy0
     go_wp2;go_roundg q
     case measure => omega
     case rel => exact ⟨k + 1, by omega, by first | rfl | simp, step.out ⟨fun _ => rfl, fun h => by simp at h⟩, rfl⟩
    ·have hy1 : (y != 0) = true := by simp [hy0]
     have Hy : Hid (¬ y = 0) := hy0;clear hy0;go_wp2;go_ret;exact Says.no (fun h => Hy.out ((back.out (HP.out.1 h).2.1).1 rfl)) Hm.out
   by_cases hx1 : x = 1
   ·subst hx1
    clear hx0;by_cases hy0 : y < 0
    ·have Hy : Hid (y < 0) := hy0
     go_wp2;go_ret;exact Says.no (fun h => by have := ((back.out (HP.out.1 h).2.1).2 rfl).1; have := Hy.out; omega) Hm.out
    by_cases hy1 : regs <= y
    ·have Hy : Hid (regs <= y) := hy1
     go_wp2;go_ret;exact Says.no (fun h => by have := ((back.out (HP.out.1 h).2.1).2 rfl).2; have := Hy.out; omega) Hm.out
    have Hy : Hid (Reg regs y) := ⟨by omega, by omega⟩;go_wp2;go_roundg q
    case measure => omega
    case rel => exact ⟨k + 1, by omega, by first | rfl | simp, step.out ⟨fun h => by simp at h, fun _ => Hy.out⟩, rfl⟩
   have Hx : Hid (¬ x = 0 /\ ¬ x = 1) := ⟨hx0, hx1⟩;have hx2 : (x == 0) = false := by simp [hx0]
   have hx3 : (x == 1) = false := by simp [hx1]
   clear hx0 hx1;go_wp2;go_roundg q
   case measure => omega
   case rel => exact ⟨k + 1, by omega, by first | rfl | simp, step.out ⟨fun h => absurd h Hx.out.1, fun h => absurd h Hx.out.2⟩, rfl⟩

set_option maxRecDepth 8000 in
theorem ins_6 (ra : Option Addr) (rl rc : Nat) (ca : Option Addr) (cl cc : Nat) (a b c n regs : Int) (w : World) (rb ro : Nat) (log : Nat -> Int) (sec : Nat -> Bool) (hra : 0 < rl -> ra = some ⟨rb, ro, none⟩) (hr : RegsAt w rb ro rl log sec) (hok : J0h rl log) (P : Prop) (HP : Hid (P ↔ (True /\ (∀ j, j < 3 -> Fld regs (tri 1 0 2 j) (tri a b c j)) /\ Rgn rl c /\ Wrd log c n))) :
  Calls Tryz.prog 43 #[.agg #[.slice ra rl rc, .slice ca cl cc], .agg #[V 6, V a, V b, V c, V n], V regs] w (Says P w) := by
 have Hr : Hid ((0 < rl -> ra = some ⟨rb, ro, none⟩) /\ RegsAt w rb ro rl log sec /\ J0h rl log) := ⟨hra, hr, hok⟩;clear hra hr hok;go_enter Tryz.func43, Tryz.ntmps43;go_wp2_with (fail)
 refine (Jlm _).mono ?_;rintro e w1 ⟨g, rfl, hg, m1⟩;obtain ⟨⟨c0, c1⟩, d0, d1, d2, d3, d4⟩ := J34 m1;have Hg : Hid (∀ j, j < 3 -> w1.cell? ⟨g, j, none⟩ = some (V (tri 1 0 2 j))) := hg;have Hm1 : Hid (More w w1) := (((More.refl _).alloc _ _).alloc _ _).trans m1;clear hg m1;have HN : Hid True := trivial;go_wp2;obtain ⟨W, HW⟩ : ∃ W : World, Hid (W = w1.alloc (.cells #[V a, V b, V c] 3)) := ⟨_, rfl⟩;have Hm1W : Hid (More w1 W) := HW.out ▸ (More.refl _).alloc _ _;have Hm : Hid (More w W) := Hm1.out.trans Hm1W.out;have Hf : Hid (∀ j, j < 3 -> W.cell? ⟨w1.heap.size, j, none⟩ = some (V (tri a b c j))) := by rw [HW.out]; exact J0k (by go_simp) (by go_simp) (by go_simp)
 have Hg' : Hid (∀ j, j < 3 -> W.cell? ⟨g, j, none⟩ = some (V (tri 1 0 2 j))) := fun j hj => Hm1W.out.cell (Hg.out j hj)
 clear Hg;replace c0 := Hm1W.out.cell c0;replace c1 := Hm1W.out.cell c1;replace d0 := Hm1W.out.cell d0;replace d1 := Hm1W.out.cell d1;replace d2 := Hm1W.out.cell d2;replace d3 := Hm1W.out.cell d3;replace d4 := Hm1W.out.cell d4;go_loopg [11] 3 (fun q i wr => ∃ k : Nat, k + q = 3 /\ i = V k /\ (∀ j, j < k -> Fld regs (tri 1 0 2 j) (tri a b c j)) /\ wr = W)
 case atStart => exact ⟨0, by omega, rfl, fun j hj => by omega, HW.out.symm⟩
 case round =>
  obtain ⟨k, hkg, rfl, hok, rfl⟩ := hrel;have Hok : Hid (∀ j, j < k -> Fld regs (tri 1 0 2 j) (tri a b c j)) := hok;clear hok;cases gk with
  | zero =>
   obtain rfl : k = 3 := by omega
   by_cases t0 : c < 0
   ·have T : Hid (c < 0) := t0
    go_wp2;go_ret;exact ⟨_, rfl, ⟨fun h => by first | (simp at h; done) | (simp at h; omega), fun h => by have h1 := (HP.out.1 h).2.2; have h2 := T.out; have h3 := h1.1.1; omega⟩, Hm.out⟩
   by_cases t1 : (rl : Int) <= c
   ·have T : Hid ((rl : Int) <= c) := t1
    go_wp2;go_ret;exact ⟨_, rfl, ⟨fun h => by first | (simp at h; done) | (simp at h; omega), fun h => by have h1 := (HP.out.1 h).2.2; have h2 := T.out; have h3 := h1.1.2; omega⟩, Hm.out⟩
   have hk : c.toNat < rl := by omega
   have t0' : 0 <= c := by omega
   have t1' : c < (rl : Int) := by omega
   have Hrgn : Hid (Rgn rl c) := ⟨t0', t1'⟩;obtain rfl := Hr.out.1 (by omega);have q0 := ((Hr.out.2.1.more Hm.out) c.toNat hk).1;have q1 := ((Hr.out.2.1.more Hm.out) c.toNat hk).2;have Hlog : Hid (0 <= log c.toNat /\ log c.toNat <= 6) := Hr.out.2.2.2 c.toNat hk;obtain ⟨lk, hlk⟩ : ∃ x, log c.toNat = x := ⟨_, rfl⟩;rw [hlk] at q0 Hlog;have Hlk : Hid (log c.toNat = lk) := hlk;clear hlk;go_wp2_with (fail)
   obtain ⟨nw, hnw⟩ : ∃ x, J0c lk = x := ⟨_, rfl⟩;refine ((J72 lk Hlog.out.1 Hlog.out.2 (sec c.toNat) _)).mono ?_;rw [hnw];have Hnw : Hid (Wrd log c n ↔ (0 <= n /\ n < nw)) := by unfold Wrd; rw [Hlk.out, <- hnw]; exact Iff.rfl
   clear hnw q0 q1;rintro e w5 ⟨rfl, m5⟩;have d4' := m5.cell d4;clear d4 d3 d2 d1 d0 c0 c1;have Hm5 : Hid (More w w5) := Hm.out.trans m5;clear m5;by_cases t2 : 0 <= n
   ·by_cases t3 : n < nw
    ·have T : Hid (Wrd log c n) := Hnw.out.2 ⟨t2, t3⟩
     go_wp2;go_ret;exact ⟨_, rfl, ⟨fun _ => HP.out.2 ⟨HN.out, Hok.out, Hrgn.out, T.out⟩, fun _ => by first | rfl | (simp <;> omega)⟩, Hm5.out⟩
    ·have T : Hid (nw <= n) := (by omega : nw <= n)
     go_wp2;go_ret;exact ⟨_, rfl, ⟨fun h => by first | (simp at h; done) | (simp at h; omega), fun h => by have h1 := (HP.out.1 h).2.2; have h2 := T.out; have h3 := (Hnw.out.1 h1.2).2; omega⟩, Hm5.out⟩
   ·have T : Hid (n < 0) := (by omega : n < 0)
    go_wp2;go_ret;exact ⟨_, rfl, ⟨fun h => by first | (simp at h; done) | (simp at h; omega), fun h => by have h1 := (HP.out.1 h).2.2; have h2 := T.out; have h3 := (Hnw.out.1 h1.2).1; omega⟩, Hm5.out⟩
  | succ q =>
   clear d0 d1 d2 d3 d4 c0 c1;have hk : k < 3 := by omega
   have hk' : (k : Int) < 3 := by omega
   have hk0 : (0 : Int) <= (k : Int) := by omega
   have qg := Hg'.out k hk;have qf := Hf.out k hk;obtain ⟨x, hx⟩ : ∃ x, tri 1 0 2 k = x := ⟨_, rfl⟩;obtain ⟨y, hy⟩ : ∃ y, tri a b c k = y := ⟨_, rfl⟩;rw [hx] at qg;rw [hy] at qf;have HX : Hid (tri 1 0 2 k = x /\ tri a b c k = y) := ⟨hx, hy⟩;clear hx hy
   have step : Hid (Fld regs x y -> ∀ j, j < k + 1 -> Fld regs (tri 1 0 2 j) (tri a b c j)) := by
    intro h j hj;by_cases e : j = k
    ·subst e; rw [HX.out.1, HX.out.2]; exact h
    ·exact Hok.out j (by omega)
   have back : Hid ((∀ j, j < 3 -> Fld regs (tri 1 0 2 j) (tri a b c j)) -> Fld regs x y) := by
    intro h;have := h k hk;rw [HX.out.1, HX.out.2] at this;exact this
   by_cases hx0 : x = 0
   ·subst hx0
    by_cases hy0 : y = 0
    ·subst hy0
     go_wp2;go_roundg q
     case measure => omega
     case rel => exact ⟨k + 1, by omega, by first | rfl | simp, step.out ⟨fun _ => rfl, fun h => by simp at h⟩, rfl⟩
    ·have hy1 : (y != 0) = true := by simp [hy0]
     have Hy : Hid (¬ y = 0) := hy0;clear hy0;go_wp2;go_ret;exact Says.no (fun h => Hy.out ((back.out (HP.out.1 h).2.1).1 rfl)) Hm.out
   by_cases hx1 : x = 1
   ·subst hx1
    clear hx0;by_cases hy0 : y < 0
    ·have Hy : Hid (y < 0) := hy0
     go_wp2;go_ret;exact Says.no (fun h => by have := ((back.out (HP.out.1 h).2.1).2 rfl).1; have := Hy.out; omega) Hm.out
    by_cases hy1 : regs <= y
    ·have Hy : Hid (regs <= y) := hy1
     go_wp2;go_ret;exact Says.no (fun h => by have := ((back.out (HP.out.1 h).2.1).2 rfl).2; have := Hy.out; omega) Hm.out
    have Hy : Hid (Reg regs y) := ⟨by omega, by omega⟩;go_wp2;go_roundg q
    case measure => omega
    case rel => exact ⟨k + 1, by omega, by first | rfl | simp, step.out ⟨fun h => by simp at h, fun _ => Hy.out⟩, rfl⟩
   have Hx : Hid (¬ x = 0 /\ ¬ x = 1) := ⟨hx0, hx1⟩;have hx2 : (x == 0) = false := by simp [hx0]
   have hx3 : (x == 1) = false := by simp [hx1]
   clear hx0 hx1;go_wp2;go_roundg q
   case measure => omega
   case rel => exact ⟨k + 1, by omega, by first | rfl | simp, step.out ⟨fun h => absurd h Hx.out.1, fun h => absurd h Hx.out.2⟩, rfl⟩

set_option maxRecDepth 8000 in
theorem ins_7 (ra : Option Addr) (rl rc : Nat) (ca : Option Addr) (cl cc : Nat) (a b c n regs : Int) (w : World) (P : Prop) (HP : Hid (P ↔ (True /\ (∀ j, j < 3 -> Fld regs (tri 0 0 0 j) (tri a b c j)) /\ Plc cl n))) :
  Calls Tryz.prog 43 #[.agg #[.slice ra rl rc, .slice ca cl cc], .agg #[V 7, V a, V b, V c, V n], V regs] w (Says P w) := by
 go_enter Tryz.func43, Tryz.ntmps43;go_wp2_with (fail)
 refine (Jln _).mono ?_;rintro e w1 ⟨g, rfl, hg, m1⟩;obtain ⟨⟨c0, c1⟩, d0, d1, d2, d3, d4⟩ := J34 m1;have Hg : Hid (∀ j, j < 3 -> w1.cell? ⟨g, j, none⟩ = some (V (tri 0 0 0 j))) := hg;have Hm1 : Hid (More w w1) := (((More.refl _).alloc _ _).alloc _ _).trans m1;clear hg m1;have HN : Hid True := trivial;go_wp2;obtain ⟨W, HW⟩ : ∃ W : World, Hid (W = w1.alloc (.cells #[V a, V b, V c] 3)) := ⟨_, rfl⟩;have Hm1W : Hid (More w1 W) := HW.out ▸ (More.refl _).alloc _ _;have Hm : Hid (More w W) := Hm1.out.trans Hm1W.out;have Hf : Hid (∀ j, j < 3 -> W.cell? ⟨w1.heap.size, j, none⟩ = some (V (tri a b c j))) := by rw [HW.out]; exact J0k (by go_simp) (by go_simp) (by go_simp)
 have Hg' : Hid (∀ j, j < 3 -> W.cell? ⟨g, j, none⟩ = some (V (tri 0 0 0 j))) := fun j hj => Hm1W.out.cell (Hg.out j hj)
 clear Hg;replace c0 := Hm1W.out.cell c0;replace c1 := Hm1W.out.cell c1;replace d0 := Hm1W.out.cell d0;replace d1 := Hm1W.out.cell d1;replace d2 := Hm1W.out.cell d2;replace d3 := Hm1W.out.cell d3;replace d4 := Hm1W.out.cell d4;go_loopg [11] 3 (fun q i wr => ∃ k : Nat, k + q = 3 /\ i = V k /\ (∀ j, j < k -> Fld regs (tri 0 0 0 j) (tri a b c j)) /\ wr = W)
 case atStart => exact ⟨0, by omega, rfl, fun j hj => by omega, HW.out.symm⟩
 case round =>
  obtain ⟨k, hkg, rfl, hok, rfl⟩ := hrel;have Hok : Hid (∀ j, j < k -> Fld regs (tri 0 0 0 j) (tri a b c j)) := hok;clear hok;cases gk with
  | zero =>
   obtain rfl : k = 3 := by omega
   by_cases t0 : 0 <= n
   ·by_cases t1 : n < (cl : Int)
    ·have T : Hid (0 <= n /\ n < (cl : Int)) := ⟨t0, t1⟩
     go_wp2;go_ret;exact ⟨_, rfl, ⟨fun _ => HP.out.2 ⟨HN.out, Hok.out, T.out⟩, fun _ => by first | rfl | (simp <;> omega)⟩, Hm.out⟩
    ·have T : Hid (¬ n < (cl : Int)) := t1
     go_wp2;go_ret;exact ⟨_, rfl, ⟨fun h => by first | (simp at h; done) | (simp at h; omega), fun h => by have h1 := (HP.out.1 h).2.2; have h2 := T.out; have h3 := h1.2; omega⟩, Hm.out⟩
   ·have T : Hid (¬ 0 <= n) := t0
    go_wp2;go_ret;exact ⟨_, rfl, ⟨fun h => by first | (simp at h; done) | (simp at h; omega), fun h => by have h1 := (HP.out.1 h).2.2; have h2 := T.out; have h3 := h1.1; omega⟩, Hm.out⟩
  | succ q =>
   clear d0 d1 d2 d3 d4 c0 c1;have hk : k < 3 := by omega
   have hk' : (k : Int) < 3 := by omega
   have hk0 : (0 : Int) <= (k : Int) := by omega
   have qg := Hg'.out k hk;have qf := Hf.out k hk;obtain ⟨x, hx⟩ : ∃ x, tri 0 0 0 k = x := ⟨_, rfl⟩;obtain ⟨y, hy⟩ : ∃ y, tri a b c k = y := ⟨_, rfl⟩;rw [hx] at qg;rw [hy] at qf;have HX : Hid (tri 0 0 0 k = x /\ tri a b c k = y) := ⟨hx, hy⟩;clear hx hy
   have step : Hid (Fld regs x y -> ∀ j, j < k + 1 -> Fld regs (tri 0 0 0 j) (tri a b c j)) := by
    intro h j hj;by_cases e : j = k
    ·subst e; rw [HX.out.1, HX.out.2]; exact h
    ·exact Hok.out j (by omega)
   have back : Hid ((∀ j, j < 3 -> Fld regs (tri 0 0 0 j) (tri a b c j)) -> Fld regs x y) := by
    intro h;have := h k hk;rw [HX.out.1, HX.out.2] at this;exact this
   by_cases hx0 : x = 0
   ·subst hx0
    by_cases hy0 : y = 0
    ·subst hy0
     go_wp2;go_roundg q
     case measure => omega
     case rel => exact ⟨k + 1, by omega, by first | rfl | simp, step.out ⟨fun _ => rfl, fun h => by simp at h⟩, rfl⟩
    ·have hy1 : (y != 0) = true := by simp [hy0]
     have Hy : Hid (¬ y = 0) := hy0;clear hy0;go_wp2;go_ret;exact Says.no (fun h => Hy.out ((back.out (HP.out.1 h).2.1).1 rfl)) Hm.out
   by_cases hx1 : x = 1
   ·subst hx1
    clear hx0;by_cases hy0 : y < 0
    ·have Hy : Hid (y < 0) := hy0
     go_wp2;go_ret;exact Says.no (fun h => by have := ((back.out (HP.out.1 h).2.1).2 rfl).1; have := Hy.out; omega) Hm.out
    by_cases hy1 : regs <= y
    ·have Hy : Hid (regs <= y) := hy1
     go_wp2;go_ret;exact Says.no (fun h => by have := ((back.out (HP.out.1 h).2.1).2 rfl).2; have := Hy.out; omega) Hm.out
    have Hy : Hid (Reg regs y) := ⟨by omega, by omega⟩;go_wp2;go_roundg q
    case measure => omega
    case rel => exact ⟨k + 1, by omega, by first | rfl | simp, step.out ⟨fun h => by simp at h, fun _ => Hy.out⟩, rfl⟩
   have Hx : Hid (¬ x = 0 /\ ¬ x = 1) := ⟨hx0, hx1⟩;have hx2 : (x == 0) = false := by simp [hx0]
   have hx3 : (x == 1) = false := by simp [hx1]
   clear hx0 hx1;go_wp2;go_roundg q
   case measure => omega
   case rel => exact ⟨k + 1, by omega, by first | rfl | simp, step.out ⟨fun h => absurd h Hx.out.1, fun h => absurd h Hx.out.2⟩, rfl⟩
set_option maxRecDepth 8000 in
theorem ins_8 (ra : Option Addr) (rl rc : Nat) (ca : Option Addr) (cl cc : Nat) (a b c n regs : Int) (w : World) (P : Prop) (HP : Hid (P ↔ (True /\ (∀ j, j < 3 -> Fld regs (tri 1 1 2 j) (tri a b c j)) /\ (1 <= c /\ c <= 4) /\ Plc cl n))) :
  Calls Tryz.prog 43 #[.agg #[.slice ra rl rc, .slice ca cl cc], .agg #[V 8, V a, V b, V c, V n], V regs] w (Says P w) := by
 go_enter Tryz.func43, Tryz.ntmps43;go_wp2_with (fail)
 refine (Jlo _).mono ?_;rintro e w1 ⟨g, rfl, hg, m1⟩;obtain ⟨⟨c0, c1⟩, d0, d1, d2, d3, d4⟩ := J34 m1;have Hg : Hid (∀ j, j < 3 -> w1.cell? ⟨g, j, none⟩ = some (V (tri 1 1 2 j))) := hg;have Hm1 : Hid (More w w1) := (((More.refl _).alloc _ _).alloc _ _).trans m1;clear hg m1;have HN : Hid True := trivial;go_wp2;obtain ⟨W, HW⟩ : ∃ W : World, Hid (W = w1.alloc (.cells #[V a, V b, V c] 3)) := ⟨_, rfl⟩;have Hm1W : Hid (More w1 W) := HW.out ▸ (More.refl _).alloc _ _;have Hm : Hid (More w W) := Hm1.out.trans Hm1W.out;have Hf : Hid (∀ j, j < 3 -> W.cell? ⟨w1.heap.size, j, none⟩ = some (V (tri a b c j))) := by rw [HW.out]; exact J0k (by go_simp) (by go_simp) (by go_simp)
 have Hg' : Hid (∀ j, j < 3 -> W.cell? ⟨g, j, none⟩ = some (V (tri 1 1 2 j))) := fun j hj => Hm1W.out.cell (Hg.out j hj)
 clear Hg;replace c0 := Hm1W.out.cell c0;replace c1 := Hm1W.out.cell c1;replace d0 := Hm1W.out.cell d0;replace d1 := Hm1W.out.cell d1;replace d2 := Hm1W.out.cell d2;replace d3 := Hm1W.out.cell d3;replace d4 := Hm1W.out.cell d4;go_loopg [11] 3 (fun q i wr => ∃ k : Nat, k + q = 3 /\ i = V k /\ (∀ j, j < k -> Fld regs (tri 1 1 2 j) (tri a b c j)) /\ wr = W)
 case atStart => exact ⟨0, by omega, rfl, fun j hj => by omega, HW.out.symm⟩
 case round =>
  obtain ⟨k, hkg, rfl, hok, rfl⟩ := hrel;have Hok : Hid (∀ j, j < k -> Fld regs (tri 1 1 2 j) (tri a b c j)) := hok;clear hok;cases gk with
  | zero =>
   obtain rfl : k = 3 := by omega
   by_cases t0 : 1 <= c
   rotate_left
   ·have T : Hid (¬ 1 <= c) := t0
    go_wp2;go_ret;exact ⟨_, rfl, ⟨fun h => by first | (simp at h; done) | (simp at h; omega), fun h => by have h1 := (HP.out.1 h).2.2; have h2 := T.out; have h3 := h1.1.1; omega⟩, Hm.out⟩
   by_cases t1 : c <= 4
   rotate_left
   ·have T : Hid (¬ c <= 4) := t1
    go_wp2;go_ret;exact ⟨_, rfl, ⟨fun h => by first | (simp at h; done) | (simp at h; omega), fun h => by have h1 := (HP.out.1 h).2.2; have h2 := T.out; have h3 := h1.1.2; omega⟩, Hm.out⟩
   by_cases t2 : 0 <= n
   rotate_left
   ·have T : Hid (¬ 0 <= n) := t2
    go_wp2;go_ret;exact ⟨_, rfl, ⟨fun h => by first | (simp at h; done) | (simp at h; omega), fun h => by have h1 := (HP.out.1 h).2.2; have h2 := T.out; have h3 := h1.2.1; omega⟩, Hm.out⟩
   by_cases t3 : n < (cl : Int)
   rotate_left
   ·have T : Hid (¬ n < (cl : Int)) := t3
    go_wp2;go_ret;exact ⟨_, rfl, ⟨fun h => by first | (simp at h; done) | (simp at h; omega), fun h => by have h1 := (HP.out.1 h).2.2; have h2 := T.out; have h3 := h1.2.2; omega⟩, Hm.out⟩
   have T : Hid ((1 <= c /\ c <= 4) /\ 0 <= n /\ n < (cl : Int)) := ⟨⟨t0, t1⟩, t2, t3⟩;go_wp2;go_ret;exact ⟨_, rfl, ⟨fun _ => HP.out.2 ⟨HN.out, Hok.out, T.out⟩, fun _ => by first | rfl | (simp <;> omega)⟩, Hm.out⟩
  | succ q =>
   clear d0 d1 d2 d3 d4 c0 c1;have hk : k < 3 := by omega
   have hk' : (k : Int) < 3 := by omega
   have hk0 : (0 : Int) <= (k : Int) := by omega
   have qg := Hg'.out k hk;have qf := Hf.out k hk;obtain ⟨x, hx⟩ : ∃ x, tri 1 1 2 k = x := ⟨_, rfl⟩;obtain ⟨y, hy⟩ : ∃ y, tri a b c k = y := ⟨_, rfl⟩;rw [hx] at qg;rw [hy] at qf;have HX : Hid (tri 1 1 2 k = x /\ tri a b c k = y) := ⟨hx, hy⟩;clear hx hy
   have step : Hid (Fld regs x y -> ∀ j, j < k + 1 -> Fld regs (tri 1 1 2 j) (tri a b c j)) := by
    intro h j hj;by_cases e : j = k
    ·subst e; rw [HX.out.1, HX.out.2]; exact h
    ·exact Hok.out j (by omega)
   have back : Hid ((∀ j, j < 3 -> Fld regs (tri 1 1 2 j) (tri a b c j)) -> Fld regs x y) := by
    intro h;have := h k hk;rw [HX.out.1, HX.out.2] at this;exact this
   by_cases hx0 : x = 0
   ·subst hx0
    by_cases hy0 : y = 0
    ·subst hy0
     go_wp2;go_roundg q
     case measure => omega
     case rel => exact ⟨k + 1, by omega, by first | rfl | simp, step.out ⟨fun _ => rfl, fun h => by simp at h⟩, rfl⟩
    ·have hy1 : (y != 0) = true := by simp [hy0]
     have Hy : Hid (¬ y = 0) := hy0;clear hy0;go_wp2;go_ret;exact Says.no (fun h => Hy.out ((back.out (HP.out.1 h).2.1).1 rfl)) Hm.out
   by_cases hx1 : x = 1
   ·subst hx1
    clear hx0;by_cases hy0 : y < 0
    ·have Hy : Hid (y < 0) := hy0
     go_wp2;go_ret;exact Says.no (fun h => by have := ((back.out (HP.out.1 h).2.1).2 rfl).1; have := Hy.out; omega) Hm.out
    by_cases hy1 : regs <= y
    ·have Hy : Hid (regs <= y) := hy1
     go_wp2;go_ret;exact Says.no (fun h => by have := ((back.out (HP.out.1 h).2.1).2 rfl).2; have := Hy.out; omega) Hm.out
    have Hy : Hid (Reg regs y) := ⟨by omega, by omega⟩;go_wp2;go_roundg q
    case measure => omega
    case rel => exact ⟨k + 1, by omega, by first | rfl | simp, step.out ⟨fun h => by simp at h, fun _ => Hy.out⟩, rfl⟩
   have Hx : Hid (¬ x = 0 /\ ¬ x = 1) := ⟨hx0, hx1⟩;have hx2 : (x == 0) = false := by simp [hx0]
   have hx3 : (x == 1) = false := by simp [hx1]
   clear hx0 hx1;go_wp2;go_roundg q
   case measure => omega
   case rel => exact ⟨k + 1, by omega, by first | rfl | simp, step.out ⟨fun h => absurd h Hx.out.1, fun h => absurd h Hx.out.2⟩, rfl⟩

set_option maxRecDepth 8000 in
theorem Jmg (ra : Option Addr) (rl rc : Nat) (ca : Option Addr) (cl cc : Nat) (a b c n regs : Int) (w : World) (P : Prop) (HP : Hid (P ↔ (True /\ (∀ j, j < 3 -> Fld regs (tri 1 1 0 j) (tri a b c j)) /\ True))) :
  Calls Tryz.prog 43 #[.agg #[.slice ra rl rc, .slice ca cl cc], .agg #[V 10, V a, V b, V c, V n], V regs] w (Says P w) := by
 go_enter Tryz.func43, Tryz.ntmps43;go_wp2_with (fail)
 refine (Jiw _).mono ?_;rintro e w1 ⟨g, rfl, hg, m1⟩;obtain ⟨⟨c0, c1⟩, d0, d1, d2, d3, d4⟩ := J34 m1;have Hg : Hid (∀ j, j < 3 -> w1.cell? ⟨g, j, none⟩ = some (V (tri 1 1 0 j))) := hg;have Hm1 : Hid (More w w1) := (((More.refl _).alloc _ _).alloc _ _).trans m1;clear hg m1;have HN : Hid True := trivial;go_wp2;obtain ⟨W, HW⟩ : ∃ W : World, Hid (W = w1.alloc (.cells #[V a, V b, V c] 3)) := ⟨_, rfl⟩;have Hm1W : Hid (More w1 W) := HW.out ▸ (More.refl _).alloc _ _;have Hm : Hid (More w W) := Hm1.out.trans Hm1W.out;have Hf : Hid (∀ j, j < 3 -> W.cell? ⟨w1.heap.size, j, none⟩ = some (V (tri a b c j))) := by rw [HW.out]; exact J0k (by go_simp) (by go_simp) (by go_simp)
 have Hg' : Hid (∀ j, j < 3 -> W.cell? ⟨g, j, none⟩ = some (V (tri 1 1 0 j))) := fun j hj => Hm1W.out.cell (Hg.out j hj)
 clear Hg;replace c0 := Hm1W.out.cell c0;replace c1 := Hm1W.out.cell c1;replace d0 := Hm1W.out.cell d0;replace d1 := Hm1W.out.cell d1;replace d2 := Hm1W.out.cell d2;replace d3 := Hm1W.out.cell d3;replace d4 := Hm1W.out.cell d4;go_loopg [11] 3 (fun q i wr => ∃ k : Nat, k + q = 3 /\ i = V k /\ (∀ j, j < k -> Fld regs (tri 1 1 0 j) (tri a b c j)) /\ wr = W)
 case atStart => exact ⟨0, by omega, rfl, fun j hj => by omega, HW.out.symm⟩
 case round =>
  obtain ⟨k, hkg, rfl, hok, rfl⟩ := hrel;have Hok : Hid (∀ j, j < k -> Fld regs (tri 1 1 0 j) (tri a b c j)) := hok;clear hok;cases gk with
  | zero =>
   obtain rfl : k = 3 := by omega
   go_wp2;go_ret;exact Says.yes (HP.out.2 ⟨HN.out, Hok.out, trivial⟩) Hm.out
  | succ q =>
   clear d0 d1 d2 d3 d4 c0 c1;have hk : k < 3 := by omega
   have hk' : (k : Int) < 3 := by omega
   have hk0 : (0 : Int) <= (k : Int) := by omega
   have qg := Hg'.out k hk;have qf := Hf.out k hk;obtain ⟨x, hx⟩ : ∃ x, tri 1 1 0 k = x := ⟨_, rfl⟩;obtain ⟨y, hy⟩ : ∃ y, tri a b c k = y := ⟨_, rfl⟩;rw [hx] at qg;rw [hy] at qf;have HX : Hid (tri 1 1 0 k = x /\ tri a b c k = y) := ⟨hx, hy⟩;clear hx hy
   have step : Hid (Fld regs x y -> ∀ j, j < k + 1 -> Fld regs (tri 1 1 0 j) (tri a b c j)) := by
    intro h j hj;by_cases e : j = k
    ·subst e; rw [HX.out.1, HX.out.2]; exact h
    ·exact Hok.out j (by omega)
   have back : Hid ((∀ j, j < 3 -> Fld regs (tri 1 1 0 j) (tri a b c j)) -> Fld regs x y) := by
    intro h;have := h k hk;rw [HX.out.1, HX.out.2] at this;exact this
   by_cases hx0 : x = 0
   ·subst hx0
    by_cases hy0 : y = 0
    ·subst hy0
     go_wp2;go_roundg q
     case measure => omega
     case rel => exact ⟨k + 1, by omega, by first | rfl | simp, step.out ⟨fun _ => rfl, fun h => by simp at h⟩, rfl⟩
    ·have hy1 : (y != 0) = true := by simp [hy0]
     have Hy : Hid (¬ y = 0) := hy0;clear hy0;go_wp2;go_ret;exact Says.no (fun h => Hy.out ((back.out (HP.out.1 h).2.1).1 rfl)) Hm.out
   by_cases hx1 : x = 1
   ·subst hx1
    clear hx0;by_cases hy0 : y < 0
    ·have Hy : Hid (y < 0) := hy0
     go_wp2;go_ret;exact Says.no (fun h => by have := ((back.out (HP.out.1 h).2.1).2 rfl).1; have := Hy.out; omega) Hm.out
    by_cases hy1 : regs <= y
    ·have Hy : Hid (regs <= y) := hy1
     go_wp2;go_ret;exact Says.no (fun h => by have := ((back.out (HP.out.1 h).2.1).2 rfl).2; have := Hy.out; omega) Hm.out
    have Hy : Hid (Reg regs y) := ⟨by omega, by omega⟩;go_wp2;go_roundg q
    case measure => omega
    case rel => exact ⟨k + 1, by omega, by first | rfl | simp, step.out ⟨fun h => by simp at h, fun _ => Hy.out⟩, rfl⟩
   have Hx : Hid (¬ x = 0 /\ ¬ x = 1) := ⟨hx0, hx1⟩;have hx2 : (x == 0) = false := by simp [hx0]
   have hx3 : (x == 1) = false := by simp [hx1]
   clear hx0 hx1;go_wp2;go_roundg q
   case measure => omega
   case rel => exact ⟨k + 1, by omega, by first | rfl | simp, step.out ⟨fun h => absurd h Hx.out.1, fun h => absurd h Hx.out.2⟩, rfl⟩

set_option maxRecDepth 8000 in
theorem Jmh (ra : Option Addr) (rl rc : Nat) (ca : Option Addr) (cl cc : Nat) (a b c n regs : Int) (w : World) (P : Prop) (HP : Hid (P ↔ (True /\ (∀ j, j < 3 -> Fld regs (tri 1 0 0 j) (tri a b c j)) /\ 1 <= n /\ n <= 64))) :
  Calls Tryz.prog 43 #[.agg #[.slice ra rl rc, .slice ca cl cc], .agg #[V 11, V a, V b, V c, V n], V regs] w (Says P w) := by
 go_enter Tryz.func43, Tryz.ntmps43;go_wp2_with (fail)
 refine (Jix _).mono ?_;rintro e w1 ⟨g, rfl, hg, m1⟩;obtain ⟨⟨c0, c1⟩, d0, d1, d2, d3, d4⟩ := J34 m1;have Hg : Hid (∀ j, j < 3 -> w1.cell? ⟨g, j, none⟩ = some (V (tri 1 0 0 j))) := hg;have Hm1 : Hid (More w w1) := (((More.refl _).alloc _ _).alloc _ _).trans m1;clear hg m1;have HN : Hid True := trivial;go_wp2;obtain ⟨W, HW⟩ : ∃ W : World, Hid (W = w1.alloc (.cells #[V a, V b, V c] 3)) := ⟨_, rfl⟩;have Hm1W : Hid (More w1 W) := HW.out ▸ (More.refl _).alloc _ _;have Hm : Hid (More w W) := Hm1.out.trans Hm1W.out;have Hf : Hid (∀ j, j < 3 -> W.cell? ⟨w1.heap.size, j, none⟩ = some (V (tri a b c j))) := by rw [HW.out]; exact J0k (by go_simp) (by go_simp) (by go_simp)
 have Hg' : Hid (∀ j, j < 3 -> W.cell? ⟨g, j, none⟩ = some (V (tri 1 0 0 j))) := fun j hj => Hm1W.out.cell (Hg.out j hj)
 clear Hg;replace c0 := Hm1W.out.cell c0;replace c1 := Hm1W.out.cell c1;replace d0 := Hm1W.out.cell d0;replace d1 := Hm1W.out.cell d1;replace d2 := Hm1W.out.cell d2;replace d3 := Hm1W.out.cell d3;replace d4 := Hm1W.out.cell d4;go_loopg [11] 3 (fun q i wr => ∃ k : Nat, k + q = 3 /\ i = V k /\ (∀ j, j < k -> Fld regs (tri 1 0 0 j) (tri a b c j)) /\ wr = W)
 case atStart => exact ⟨0, by omega, rfl, fun j hj => by omega, HW.out.symm⟩
 case round =>
  obtain ⟨k, hkg, rfl, hok, rfl⟩ := hrel;have Hok : Hid (∀ j, j < k -> Fld regs (tri 1 0 0 j) (tri a b c j)) := hok;clear hok;cases gk with
  | zero =>
   obtain rfl : k = 3 := by omega
   by_cases t0 : 1 <= n
   ·by_cases t1 : n <= 64
    ·have T : Hid (1 <= n /\ n <= 64) := ⟨t0, t1⟩
     go_wp2;go_ret;exact ⟨_, rfl, ⟨fun _ => HP.out.2 ⟨HN.out, Hok.out, T.out⟩, fun _ => by first | rfl | (simp <;> omega)⟩, Hm.out⟩
    ·have T : Hid (¬ n <= 64) := t1
     go_wp2;go_ret;exact ⟨_, rfl, ⟨fun h => by first | (simp at h; done) | (simp at h; omega), fun h => by have h1 := (HP.out.1 h).2.2; have h2 := T.out; have h3 := h1.2; omega⟩, Hm.out⟩
   ·have T : Hid (¬ 1 <= n) := t0
    go_wp2;go_ret;exact ⟨_, rfl, ⟨fun h => by first | (simp at h; done) | (simp at h; omega), fun h => by have h1 := (HP.out.1 h).2.2; have h2 := T.out; have h3 := h1.1; omega⟩, Hm.out⟩
  | succ q =>
   clear d0 d1 d2 d3 d4 c0 c1;have hk : k < 3 := by omega
   have hk' : (k : Int) < 3 := by omega
   have hk0 : (0 : Int) <= (k : Int) := by omega
   have qg := Hg'.out k hk;have qf := Hf.out k hk;obtain ⟨x, hx⟩ : ∃ x, tri 1 0 0 k = x := ⟨_, rfl⟩;obtain ⟨y, hy⟩ : ∃ y, tri a b c k = y := ⟨_, rfl⟩;rw [hx] at qg;rw [hy] at qf;have HX : Hid (tri 1 0 0 k = x /\ tri a b c k = y) := ⟨hx, hy⟩;clear hx hy
   have step : Hid (Fld regs x y -> ∀ j, j < k + 1 -> Fld regs (tri 1 0 0 j) (tri a b c j)) := by
    intro h j hj;by_cases e : j = k
    ·subst e; rw [HX.out.1, HX.out.2]; exact h
    ·exact Hok.out j (by omega)
   have back : Hid ((∀ j, j < 3 -> Fld regs (tri 1 0 0 j) (tri a b c j)) -> Fld regs x y) := by
    intro h;have := h k hk;rw [HX.out.1, HX.out.2] at this;exact this
   by_cases hx0 : x = 0
   ·subst hx0
    by_cases hy0 : y = 0
    ·subst hy0
     go_wp2;go_roundg q
     case measure => omega
     case rel => exact ⟨k + 1, by omega, by first | rfl | simp, step.out ⟨fun _ => rfl, fun h => by simp at h⟩, rfl⟩
    ·have hy1 : (y != 0) = true := by simp [hy0]
     have Hy : Hid (¬ y = 0) := hy0;clear hy0;go_wp2;go_ret;exact Says.no (fun h => Hy.out ((back.out (HP.out.1 h).2.1).1 rfl)) Hm.out
   by_cases hx1 : x = 1
   ·subst hx1
    clear hx0;by_cases hy0 : y < 0
    ·have Hy : Hid (y < 0) := hy0
     go_wp2;go_ret;exact Says.no (fun h => by have := ((back.out (HP.out.1 h).2.1).2 rfl).1; have := Hy.out; omega) Hm.out
    by_cases hy1 : regs <= y
    ·have Hy : Hid (regs <= y) := hy1
     go_wp2;go_ret;exact Says.no (fun h => by have := ((back.out (HP.out.1 h).2.1).2 rfl).2; have := Hy.out; omega) Hm.out
    have Hy : Hid (Reg regs y) := ⟨by omega, by omega⟩;go_wp2;go_roundg q
    case measure => omega
    case rel => exact ⟨k + 1, by omega, by first | rfl | simp, step.out ⟨fun h => by simp at h, fun _ => Hy.out⟩, rfl⟩
   have Hx : Hid (¬ x = 0 /\ ¬ x = 1) := ⟨hx0, hx1⟩;have hx2 : (x == 0) = false := by simp [hx0]
   have hx3 : (x == 1) = false := by simp [hx1]
   clear hx0 hx1;go_wp2;go_roundg q
   case measure => omega
   case rel => exact ⟨k + 1, by omega, by first | rfl | simp, step.out ⟨fun h => absurd h Hx.out.1, fun h => absurd h Hx.out.2⟩, rfl⟩

set_option maxRecDepth 8000 in
theorem Jmj (ra : Option Addr) (rl rc : Nat) (ca : Option Addr) (cl cc : Nat) (op : Int) (o1 : 20 < op) (o2 : op <= 30) (a b c n regs : Int) (w : World) (P : Prop) (HP : Hid (P ↔ (n = 0 /\ (∀ j, j < 3 -> Fld regs (tri 1 1 1 j) (tri a b c j)) /\ True))) :
  Calls Tryz.prog 43 #[.agg #[.slice ra rl rc, .slice ca cl cc], .agg #[V op, V a, V b, V c, V n], V regs] w (Says P w) := by
 go_enter Tryz.func43, Tryz.ntmps43;go_wp2_with (fail)
 refine (Jiz op o1 o2 _).mono ?_;rintro e w1 ⟨g, rfl, hg, m1⟩;obtain ⟨⟨c0, c1⟩, d0, d1, d2, d3, d4⟩ := J34 m1;have Hg : Hid (∀ j, j < 3 -> w1.cell? ⟨g, j, none⟩ = some (V (tri 1 1 1 j))) := hg;have Hm1 : Hid (More w w1) := (((More.refl _).alloc _ _).alloc _ _).trans m1;clear hg m1;by_cases hn0 : n = 0
 rotate_left
 ·have HN : Hid (¬ n = 0) := hn0
  have hn1 : (n != 0) = true := by simp [hn0]
  clear hn0;go_wp2;go_ret;exact Says.no (fun h => HN.out (HP.out.1 h).1) Hm1.out
 have HN : Hid (n = 0) := hn0;have hn1 : (n != 0) = false := by simp [hn0]
 clear hn0;go_wp2;obtain ⟨W, HW⟩ : ∃ W : World, Hid (W = w1.alloc (.cells #[V a, V b, V c] 3)) := ⟨_, rfl⟩;have Hm1W : Hid (More w1 W) := HW.out ▸ (More.refl _).alloc _ _;have Hm : Hid (More w W) := Hm1.out.trans Hm1W.out;have Hf : Hid (∀ j, j < 3 -> W.cell? ⟨w1.heap.size, j, none⟩ = some (V (tri a b c j))) := by rw [HW.out]; exact J0k (by go_simp) (by go_simp) (by go_simp)
 have Hg' : Hid (∀ j, j < 3 -> W.cell? ⟨g, j, none⟩ = some (V (tri 1 1 1 j))) := fun j hj => Hm1W.out.cell (Hg.out j hj)
 clear Hg;replace c0 := Hm1W.out.cell c0;replace c1 := Hm1W.out.cell c1;replace d0 := Hm1W.out.cell d0;replace d1 := Hm1W.out.cell d1;replace d2 := Hm1W.out.cell d2;replace d3 := Hm1W.out.cell d3;replace d4 := Hm1W.out.cell d4;go_loopg [11] 3 (fun q i wr => ∃ k : Nat, k + q = 3 /\ i = V k /\ (∀ j, j < k -> Fld regs (tri 1 1 1 j) (tri a b c j)) /\ wr = W)
 case atStart => exact ⟨0, by omega, rfl, fun j hj => by omega, HW.out.symm⟩
 case round =>
  obtain ⟨k, hkg, rfl, hok, rfl⟩ := hrel;have Hok : Hid (∀ j, j < k -> Fld regs (tri 1 1 1 j) (tri a b c j)) := hok;clear hok;cases gk with
  | zero =>
   obtain rfl : k = 3 := by omega
   go_wp2;go_ret;exact Says.yes (HP.out.2 ⟨HN.out, Hok.out, trivial⟩) Hm.out
  | succ q =>
   clear d0 d1 d2 d3 d4 c0 c1;have hk : k < 3 := by omega
   have hk' : (k : Int) < 3 := by omega
   have hk0 : (0 : Int) <= (k : Int) := by omega
   have qg := Hg'.out k hk;have qf := Hf.out k hk;obtain ⟨x, hx⟩ : ∃ x, tri 1 1 1 k = x := ⟨_, rfl⟩;obtain ⟨y, hy⟩ : ∃ y, tri a b c k = y := ⟨_, rfl⟩;rw [hx] at qg;rw [hy] at qf;have HX : Hid (tri 1 1 1 k = x /\ tri a b c k = y) := ⟨hx, hy⟩;clear hx hy
   have step : Hid (Fld regs x y -> ∀ j, j < k + 1 -> Fld regs (tri 1 1 1 j) (tri a b c j)) := by
    intro h j hj;by_cases e : j = k
    ·subst e; rw [HX.out.1, HX.out.2]; exact h
    ·exact Hok.out j (by omega)
   have back : Hid ((∀ j, j < 3 -> Fld regs (tri 1 1 1 j) (tri a b c j)) -> Fld regs x y) := by
    intro h;have := h k hk;rw [HX.out.1, HX.out.2] at this;exact this
   by_cases hx0 : x = 0
   ·subst hx0
    by_cases hy0 : y = 0
    ·subst hy0
     go_wp2;go_roundg q
     case measure => omega
     case rel => exact ⟨k + 1, by omega, by first | rfl | simp, step.out ⟨fun _ => rfl, fun h => by simp at h⟩, rfl⟩
    ·have hy1 : (y != 0) = true := by simp [hy0]
     have Hy : Hid (¬ y = 0) := hy0;clear hy0;go_wp2;go_ret;exact Says.no (fun h => Hy.out ((back.out (HP.out.1 h).2.1).1 rfl)) Hm.out
   by_cases hx1 : x = 1
   ·subst hx1
    clear hx0;by_cases hy0 : y < 0
    ·have Hy : Hid (y < 0) := hy0
     go_wp2;go_ret;exact Says.no (fun h => by have := ((back.out (HP.out.1 h).2.1).2 rfl).1; have := Hy.out; omega) Hm.out
    by_cases hy1 : regs <= y
    ·have Hy : Hid (regs <= y) := hy1
     go_wp2;go_ret;exact Says.no (fun h => by have := ((back.out (HP.out.1 h).2.1).2 rfl).2; have := Hy.out; omega) Hm.out
    have Hy : Hid (Reg regs y) := ⟨by omega, by omega⟩;go_wp2;go_roundg q
    case measure => omega
    case rel => exact ⟨k + 1, by omega, by first | rfl | simp, step.out ⟨fun h => by simp at h, fun _ => Hy.out⟩, rfl⟩
   have Hx : Hid (¬ x = 0 /\ ¬ x = 1) := ⟨hx0, hx1⟩;have hx2 : (x == 0) = false := by simp [hx0]
   have hx3 : (x == 1) = false := by simp [hx1]
   clear hx0 hx1;go_wp2;go_roundg q
   case measure => omega
   case rel => exact ⟨k + 1, by omega, by first | rfl | simp, step.out ⟨fun h => absurd h Hx.out.1, fun h => absurd h Hx.out.2⟩, rfl⟩
end
section
open Go.RowKit
set_option linter.unusedSimpArgs false
theorem J2g (regs x y z a b c : Int) : (∀ j, j < 3 -> Fld regs (tri x y z j) (tri a b c j)) ↔ Fld regs x a /\ Fld regs y b /\ Fld regs z c := by
 constructor
 ·intro h
  exact ⟨h 0 (by omega), h 1 (by omega), h 2 (by omega)⟩
 ·rintro ⟨h0, h1, h2⟩ j hj
  have : j = 0 \/ j = 1 \/ j = 2 := by omega
  rcases this with rfl | rfl | rfl
  ·exact h0
  ·exact h1
  ·exact h2
theorem fld0 (regs f : Int) : Fld regs 0 f ↔ f = 0 := by unfold Fld; simp
theorem fld1 (regs f : Int) : Fld regs 1 f ↔ Reg regs f := by unfold Fld; simp
theorem fld2 (regs f : Int) : Fld regs 2 f ↔ True := by unfold Fld; simp

set_option maxRecDepth 8000 in
theorem Jhl (ra : Option Addr) (rl rc : Nat) (ca : Option Addr) (cl cc : Nat) (op a b c n regs : Int) (h1 : ¬ op = 1) (h2 : ¬ op = 2) (h3 : ¬ op = 3) (h4 : ¬ op = 4) (h5 : ¬ op = 5) (h6 : ¬ op = 6) (h7 : ¬ op = 7) (h8 : ¬ op = 8) (h9 : ¬ op = 9) (h10 : ¬ op = 10) (h11 : ¬ op = 11) (h12 : ¬ op = 12) (h : ¬ (20 < op /\ op <= 30)) (w : World) :
  Calls Tryz.prog 43 #[.agg #[.slice ra rl rc, .slice ca cl cc], .agg #[V op, V a, V b, V c, V n], V regs] w fun e w' => e = .returned (.bool false) /\ More w w' := by
 have Hs : Hid (∀ w : World, Calls Tryz.prog 69 #[V op] w fun e w' => e = .returned (.tuple #[.slice none 0 0, .bool false, .bool false]) /\ w' = w) := fun w => Jdz op h1 h2 h3 h4 h5 h6 h7 h8 h9 h10 h11 h12 h w
 clear h1 h2 h3 h4 h5 h6 h7 h8 h9 h10 h11 h12 h;go_enter Tryz.func43, Tryz.ntmps43;go_wp2_with (fail)
 refine (Hs.out _).mono ?_;rintro e w1 ⟨rfl, rfl⟩;go_wp2;go_ret;exact ⟨rfl, ((More.refl _).alloc _ _).alloc _ _⟩

theorem Jlg (ra : Option Addr) (rl rc : Nat) (ca : Option Addr) (cl cc : Nat) (op a b c n regs : Int) (w : World) (rb ro : Nat) (log : Nat -> Int) (sec : Nat -> Bool) (hra : 0 < rl -> ra = some ⟨rb, ro, none⟩) (hr : RegsAt w rb ro rl log sec) (hok : J0h rl log) :
  Calls Tryz.prog 43 #[.agg #[.slice ra rl rc, .slice ca cl cc], .agg #[V op, V a, V b, V c, V n], V regs] w (Says (InsOk rl log cl regs ⟨op, a, b, c, n⟩) w) := by
 by_cases h1 : op = 1
 ·subst h1
  refine ins_1 ra rl rc ca cl cc a b c n regs w _ ?_;show _ ↔ _;rw [J2g]; simp only [fld0, fld1, fld2];unfold InsOk;simp [and_assoc, and_comm, and_left_comm]
 by_cases h2 : op = 2
 ·subst h2
  refine ins_2 ra rl rc ca cl cc a b c n regs w _ ?_;show _ ↔ _;rw [J2g]; simp only [fld0, fld1, fld2];unfold InsOk;simp [and_assoc, and_comm, and_left_comm]
 by_cases h3 : op = 3
 ·subst h3
  refine ins_3 ra rl rc ca cl cc a b c n regs w _ ?_;show _ ↔ _;rw [J2g]; simp only [fld0, fld1, fld2];unfold InsOk;simp [and_assoc, and_comm, and_left_comm]
 by_cases h4 : op = 4
 ·subst h4
  refine ins_4 ra rl rc ca cl cc a b c n regs w _ ?_;show _ ↔ _;rw [J2g]; simp only [fld0, fld1, fld2];unfold InsOk;simp [and_assoc, and_comm, and_left_comm]
 by_cases h5 : op = 5
 ·subst h5
  refine ins_5 ra rl rc ca cl cc a b c n regs w rb ro log sec hra hr hok _ ?_;show _ ↔ _;rw [J2g]; simp only [fld0, fld1, fld2];unfold InsOk;simp [and_assoc, and_comm, and_left_comm]
 by_cases h6 : op = 6
 ·subst h6
  refine ins_6 ra rl rc ca cl cc a b c n regs w rb ro log sec hra hr hok _ ?_;show _ ↔ _;rw [J2g]; simp only [fld0, fld1, fld2];unfold InsOk;simp [and_assoc, and_comm, and_left_comm]
 by_cases h7 : op = 7
 ·subst h7
  refine ins_7 ra rl rc ca cl cc a b c n regs w _ ?_;show _ ↔ _;rw [J2g]; simp only [fld0, fld1, fld2];unfold InsOk;simp [and_assoc, and_comm, and_left_comm]
 by_cases h8 : op = 8
 ·subst h8
  refine ins_8 ra rl rc ca cl cc a b c n regs w _ ?_;show _ ↔ _;rw [J2g]; simp only [fld0, fld1, fld2];unfold InsOk;simp [and_assoc, and_comm, and_left_comm]
 by_cases h9 : op = 9
 ·subst h9
  refine ins_9 ra rl rc ca cl cc a b c n regs w _ ?_;show _ ↔ _;rw [J2g]; simp only [fld0, fld1, fld2];unfold InsOk;simp [and_assoc, and_comm, and_left_comm]
 by_cases h10 : op = 10
 ·subst h10
  refine Jmg ra rl rc ca cl cc a b c n regs w _ ?_;show _ ↔ _;rw [J2g]; simp only [fld0, fld1, fld2];unfold InsOk;simp [and_assoc, and_comm, and_left_comm]
 by_cases h11 : op = 11
 ·subst h11
  refine Jmh ra rl rc ca cl cc a b c n regs w _ ?_;show _ ↔ _;rw [J2g]; simp only [fld0, fld1, fld2];unfold InsOk;simp [and_assoc, and_comm, and_left_comm]
 by_cases h12 : op = 12
 ·subst h12
  refine Jmi ra rl rc ca cl cc a b c n regs w _ ?_;show _ ↔ _;rw [J2g]; simp only [fld0, fld1, fld2];unfold InsOk;simp [and_assoc, and_comm, and_left_comm]
 by_cases ho : 20 < op /\ op <= 30
 ·refine Jmj ra rl rc ca cl cc op ho.1 ho.2 a b c n regs w _ ?_
  show _ ↔ _;rw [J2g]; simp only [fld1];unfold InsOk;rw [if_neg h1, if_neg h2, if_neg h3, if_neg h4, if_neg h5, if_neg h6, if_neg h7, if_neg h8, if_neg h9, if_neg h10, if_neg h11, if_neg h12];constructor
  ·exact fun h => ⟨h.2.2.2.2, ⟨h.2.1, h.2.2.1, h.2.2.2.1⟩, trivial⟩
  ·exact fun h => ⟨⟨by have := ho.1; show (21 : Int) <= op; omega, ho.2⟩, h.2.1.1, h.2.1.2.1, h.2.1.2.2, h.1⟩
 refine (Jhl ra rl rc ca cl cc op a b c n regs h1 h2 h3 h4 h5 h6 h7 h8 h9 h10 h11 h12 ho w).mono ?_;rintro e w' ⟨rfl, m⟩;refine Says.no (fun h => ?_) m;unfold InsOk at h;rw [if_neg h1, if_neg h2, if_neg h3, if_neg h4, if_neg h5, if_neg h6, if_neg h7, if_neg h8, if_neg h9, if_neg h10, if_neg h11, if_neg h12] at h;exact ho ⟨by have := h.1.1; dsimp only at this; omega, h.1.2⟩

theorem Jmp (ra : Option Addr) (rl rc : Nat) (ca : Option Addr) (cl cc : Nat) (code regs : Int) (rb ro cb co : Nat) (log : Nat -> Int) (sec : Nat -> Bool) (ins : Nat -> Ins) (w : World) (most : Nat) (hcode : code = most) (hmost : most <= 8000)
  (hra : 0 < rl -> ra = some ⟨rb, ro, none⟩) (hr : RegsAt w rb ro rl log sec) (hca : 0 < cl -> ca = some ⟨cb, co, none⟩) (hc : CodeAt w cb co cl ins) :
  Calls Tryz.prog 24 #[.agg #[.slice ra rl rc, .slice ca cl cc], V code, V regs] w (Says (J0h rl log /\ J7u rl log cl ins most regs) w) := by
 have Hcd : Hid (code = most /\ most <= 8000) := ⟨hcode, hmost⟩;have Hr : Hid ((0 < rl -> ra = some ⟨rb, ro, none⟩) /\ RegsAt w rb ro rl log sec) := ⟨hra, hr⟩;have Hc : Hid ((0 < cl -> ca = some ⟨cb, co, none⟩) /\ CodeAt w cb co cl ins) := ⟨hca, hc⟩;obtain ⟨Pr, HP⟩ : ∃ Pr : Prop, Hid (Pr ↔ (J0h rl log /\ J7u rl log cl ins most regs)) := ⟨_, Iff.rfl⟩;rw [<- propext HP.out];clear hcode hmost hra hr hca hc;go_enter Tryz.func24, Tryz.ntmps24;go_wp2_with (fail)
 refine (J71 ra rl rc ca cl cc rb ro log sec _ Hr.out.1 (Hr.out.2.more ((More.refl _).alloc _ _))).mono ?_;rintro e w1 ⟨r, rfl, h, m1⟩;have e0 : w1.cell? ⟨w.heap.size, 0, none⟩ = some (.slice ra rl rc) := m1.cell (by go_simp);have e1 : w1.cell? ⟨w.heap.size, 1, none⟩ = some (.slice ca cl cc) := m1.cell (by go_simp);have Hm1 : Hid (More w w1) := ((More.refl _).alloc _ _).trans m1;clear m1;cases r with
 | false =>
  have HA : Hid (¬ J0h rl log) := fun k => by simpa using h.2 k
  clear h;go_wp2;go_ret;exact Says.no (fun h => HA.out (HP.out.1 h).1) Hm1.out
 | true =>
  have HA : Hid (J0h rl log) := h.1 rfl;clear h;by_cases h1 : (cl : Int) < 1
  ·have T : Hid ((cl : Int) < 1) := h1
   go_wp2;go_ret;exact Says.no (fun h => by have := (HP.out.1 h).2.1; have := T.out; omega) Hm1.out
  by_cases h2 : code < (cl : Int)
  ·have T : Hid (code < (cl : Int)) := h2
   go_wp2;go_ret;exact Says.no (fun h => by have := (HP.out.1 h).2.2.1; have := Hcd.out.1; have := T.out; omega) Hm1.out
  have Hl : Hid (1 <= cl /\ cl <= most) := ⟨by omega, by have := Hcd.out.1; omega⟩;have He : Hid (w1.cell? ⟨w.heap.size, 0, none⟩ = some (.slice ra rl rc) /\ w1.cell? ⟨w.heap.size, 1, none⟩ = some (.slice ca cl cc)) := ⟨e0, e1⟩;go_wp2;clear e0 e1;go_loopg [7] cl (fun g i wr => ∃ k : Nat, k + g = cl /\ i = V k /\ (∀ j, j < k -> InsOk rl log cl regs (ins j)) /\ More w wr /\ wr.cell? ⟨w.heap.size, 0, none⟩ = some (.slice ra rl rc) /\ wr.cell? ⟨w.heap.size, 1, none⟩ = some (.slice ca cl cc))
  case atStart => exact ⟨0, by omega, rfl, fun j hj => by omega, Hm1.out, He.out.1, He.out.2⟩
  case round =>
   obtain ⟨k, hkg, rfl, hin, m, e0, e1⟩ := hrel;have Hm : Hid (More w wr /\ ∀ j, j < k -> InsOk rl log cl regs (ins j)) := ⟨m, hin⟩;clear m hin;cases gk with
   | zero =>
    obtain rfl : k = cl := by omega
    go_wp2;go_ret;exact Says.yes (HP.out.2 ⟨HA.out, Hl.out.1, Hl.out.2, Hm.out.2⟩) Hm.out.1
   | succ g =>
    have hk : k < cl := by omega
    have hk' : (k : Int) < (cl : Int) := by omega
    have hk0 : (0 : Int) <= (k : Int) := by omega
    obtain rfl := Hc.out.1 (by omega);have hcell := (Hc.out.2.more Hm.out.1) k hk;cases hI : ins k with
    | mk op a b c n =>
    rw [hI] at hcell;have HI : Hid (ins k = ⟨op, a, b, c, n⟩) := hI;clear hI;obtain ⟨q0, q1, q2, q3, q4⟩ := hcell;obtain ⟨S, HS⟩ : ∃ S : World -> Prop, Hid (∀ w', S w' ↔ More wr w') := ⟨fun w' => More wr w', fun _ => Iff.rfl⟩;have k0 : ∀ i : { w' // S w' }, i.val.cell? ⟨w.heap.size, 0, none⟩ = some (.slice ra rl rc) := fun i => ((HS.out _).1 i.property).cell e0
    have k1 : ∀ i : { w' // S w' }, i.val.cell? ⟨w.heap.size, 1, none⟩ = some (.slice (some ⟨cb, co, none⟩) cl cc) := fun i => ((HS.out _).1 i.property).cell e1
    have d0 : ∀ i : { w' // S w' }, i.val.cell? ⟨cb, co + k * 5, none⟩ = some (V op) := fun i => ((HS.out _).1 i.property).cell q0
    have d1 : ∀ i : { w' // S w' }, i.val.cell? ⟨cb, co + k * 5 + 1, none⟩ = some (V a) := fun i => ((HS.out _).1 i.property).cell q1
    have d2 : ∀ i : { w' // S w' }, i.val.cell? ⟨cb, co + k * 5 + 2, none⟩ = some (V b) := fun i => ((HS.out _).1 i.property).cell q2
    have d3 : ∀ i : { w' // S w' }, i.val.cell? ⟨cb, co + k * 5 + 3, none⟩ = some (V c) := fun i => ((HS.out _).1 i.property).cell q3
    have d4 : ∀ i : { w' // S w' }, i.val.cell? ⟨cb, co + k * 5 + 4, none⟩ = some (V n) := fun i => ((HS.out _).1 i.property).cell q4
    have hne : Nonempty { w' // S w' } := ⟨⟨wr, (HS.out _).2 (More.refl _)⟩⟩;go_wp2_with (fail)
    refine J03 (S := S) [(0, true), (1, true), (2, true), (3, true), (4, true), (5, true), (6, true), (7, false), (8, true)] (by kernel_rfl) (by kernel_rfl) (by kernel_rfl) ((HS.out _).2 (More.refl _).drew) ?_
    iterate 7 (refine J00 rfl (by kernel_rfl) (fun K hK => ?_); go_simp; refine hK _ _ ?_; clear hK K)
    refine J02 rfl (by kernel_rfl) (fun K hK => ?_); go_simp;refine (Jlg ra rl rc _ cl cc op a b c n regs _ rb ro log sec Hr.out.1 (Hr.out.2.more (Hm.out.1.trans (More.refl _).drew)) HA.out).mono ?_;rintro e w2 ⟨r2, rfl, hr2, m2⟩;have Hm2 : Hid (More wr w2) := (More.refl _).drew.trans m2;clear m2;have e0' := Hm2.out.cell e0;have e1' := Hm2.out.cell e1;clear e0 e1;cases r2 with
    | false =>
     have HF : Hid (¬ InsOk rl log cl regs ⟨op, a, b, c, n⟩) := fun h => by simpa using hr2.2 h
     clear hr2
     go_simp
     refine hK _ _ ((HS.out _).2 Hm2.out) ?_; clear hK K;refine J00 rfl (by kernel_rfl) (fun K hK => ?_); go_simp; refine hK _ _ ?_; clear hK K;refine J04 ?_;clear k0 k1 d0 d1 d2 d3 d4 hne q0 q1 q2 q3 q4;go_wp2;go_ret;exact Says.no (fun h => HF.out (HI.out ▸ (HP.out.1 h).2.2.2 k hk)) (Hm.out.1.trans Hm2.out)
    | true =>
     have HF : Hid (InsOk rl log cl regs ⟨op, a, b, c, n⟩) := hr2.1 rfl;clear hr2
     go_simp
     refine hK _ _ ((HS.out _).2 Hm2.out) ?_; clear hK K;refine J00 rfl (by kernel_rfl) (fun K hK => ?_); go_simp; refine hK _ _ ?_; clear hK K;refine J04 ?_;clear k0 k1 d0 d1 d2 d3 d4 hne q0 q1 q2 q3 q4;go_wp2;go_roundg g
     case measure => omega
     case rel =>
      refine ⟨k + 1, by omega, by first | rfl | (simp; unfold wrap64; have := Hl.out.2; have := Hcd.out.2; omega), fun j hj => ?_, Hm.out.1.trans Hm2.out, e0', e1'⟩;by_cases e : j = k
      ·subst e; rw [HI.out]; exact HF.out
      ·exact Hm.out.2 j (by omega)

theorem Jfk (p : Prg) (l : Loc) (w : World) (h : PIn w p l) :
  Calls Tryz.prog 11 #[.agg #[.slice l.ra p.rl l.rc, .slice l.ca p.cl l.cc]] w (Says (p.Ok 200 8) w) := by
 have H : Hid (PIn w p l) := h;clear h;go_enter Tryz.func11, Tryz.ntmps11;go_wp2_with (fail)
 have m0 : More w (w.alloc (.cells #[.slice l.ra p.rl l.rc, .slice l.ca p.cl l.cc] 25)) := (More.refl _).alloc _ _;refine (Jmp l.ra p.rl l.rc l.ca p.cl l.cc 200 8 l.rb l.ro l.cb l.co p.log p.sec p.ins _ 200 rfl (by omega) H.out.hr (H.out.regs.more m0) H.out.hc (H.out.code.more m0)).mono ?_;rintro e w1 ⟨r, rfl, h1, m1⟩;have H1 : Hid ((r = true ↔ p.Ok 200 8) /\ More w w1) := ⟨h1, m0.trans m1⟩;clear h1 m1 m0;go_wp2;go_ret;exact ⟨r, rfl, H1.out.1, H1.out.2⟩

theorem Jik (ra : Option Addr) (rl rc : Nat) (ca : Option Addr) (cl cc : Nat) (ma : Option Addr) (ml mc : Nat) (rb ro mb mo : Nat) (log : Nat -> Int) (sec : Nat -> Bool) (A : Nat -> Option Addr) (L C : Nat -> Nat) (w : World)
  (hra : 0 < rl -> ra = some ⟨rb, ro, none⟩) (hr : RegsAt w rb ro rl log sec) (hma : 0 < ml -> ma = some ⟨mb, mo, none⟩) (hm : ListsAt w mb mo ml A L C) :
  Calls Tryz.prog 5 #[.agg #[.slice ra rl rc, .slice ca cl cc], .slice ma ml mc] w (Says (J0t rl log ml L) w) := by
 have Hr : Hid ((0 < rl -> ra = some ⟨rb, ro, none⟩) /\ RegsAt w rb ro rl log sec) := ⟨hra, hr⟩;have Hl : Hid ((0 < ml -> ma = some ⟨mb, mo, none⟩) /\ ListsAt w mb mo ml A L C) := ⟨hma, hm⟩;obtain ⟨Pr, HP⟩ : ∃ Pr : Prop, Hid (Pr ↔ J0t rl log ml L) := ⟨_, Iff.rfl⟩;rw [<- propext HP.out];clear hra hr hma hm;go_enter Tryz.func5, Tryz.ntmps5;go_wp2_with (fail)
 refine (J71 ra rl rc ca cl cc rb ro log sec _ Hr.out.1 (Hr.out.2.more ((More.refl _).alloc _ _))).mono ?_;rintro e w1 ⟨r, rfl, h, m1⟩;have e0 : w1.cell? ⟨w.heap.size, 0, none⟩ = some (.slice ra rl rc) := m1.cell (by go_simp);have e1 : w1.cell? ⟨w.heap.size, 1, none⟩ = some (.slice ca cl cc) := m1.cell (by go_simp);have Hm1 : Hid (More w w1) := ((More.refl _).alloc _ _).trans m1;clear m1;cases r with
 | false =>
  have HA : Hid (¬ J0h rl log) := fun k => by simpa using h.2 k
  clear h;go_wp2;go_ret;exact Says.no (fun h => HA.out (HP.out.1 h).1) Hm1.out
 | true =>
  have HA : Hid (J0h rl log) := h.1 rfl;clear h;by_cases hne : (ml : Int) = (rl : Int)
  ·have Hml : Hid (ml = rl) := (by omega : ml = rl)
   have h6 : ml <= 6 := by have := HA.out.1; have := Hml.out; omega
   have hne' : ((ml : Int) != (rl : Int)) = false := by simp [hne]
   have Hle : Hid ((ml : Int) <= (rl : Int)) := by rw [hne]; exact Int.le_refl _
   clear hne;have He : Hid (w1.cell? ⟨w.heap.size, 0, none⟩ = some (.slice ra rl rc) /\ w1.cell? ⟨w.heap.size, 1, none⟩ = some (.slice ca cl cc)) := ⟨e0, e1⟩;go_wp2;clear e0 e1 hne';go_loopg [5] ml (fun g i wr => ∃ k : Nat, k + g = ml /\ i = V k /\ (∀ j, j < k -> (L j : Int) = J0c (log j)) /\ More w wr /\ wr.cell? ⟨w.heap.size, 0, none⟩ = some (.slice ra rl rc) /\ wr.cell? ⟨w.heap.size, 1, none⟩ = some (.slice ca cl cc))
   case atStart => exact ⟨0, by omega, rfl, fun j hj => by omega, Hm1.out, He.out.1, He.out.2⟩
   case round =>
    obtain ⟨k, hkg, rfl, hin, m, e0, e1⟩ := hrel;have Hm : Hid (More w wr /\ ∀ j, j < k -> (L j : Int) = J0c (log j)) := ⟨m, hin⟩;clear m hin;cases gk with
    | zero =>
     obtain rfl : k = ml := by omega
     go_wp2;go_ret;exact Says.yes (HP.out.2 ⟨HA.out, Hml.out, fun i hi => Hm.out.2 i (by have := Hml.out; omega)⟩) Hm.out.1
    | succ g =>
     have hk : k < ml := by omega
     have hkr : k < rl := by have := Hml.out; omega
     have hk' : (k : Int) < (ml : Int) := by omega
     have hkr' : (k : Int) < (rl : Int) := by omega
     have hk0 : (0 : Int) <= (k : Int) := by omega
     obtain rfl := Hr.out.1 (by omega);obtain rfl := Hl.out.1 (by omega);have q0 := ((Hr.out.2.more Hm.out.1) k hkr).1;have q1 := ((Hr.out.2.more Hm.out.1) k hkr).2;have Hlog : Hid (0 <= log k /\ log k <= 6) := HA.out.2 k hkr;obtain ⟨lk, hlk⟩ : ∃ x, log k = x := ⟨_, rfl⟩;rw [hlk] at q0 Hlog;have Hlk : Hid (log k = lk) := hlk;clear hlk;go_wp2_with (fail)
     obtain ⟨nw, hnw⟩ : ∃ x, J0c lk = x := ⟨_, rfl⟩;refine (J72 lk Hlog.out.1 Hlog.out.2 (sec k) _).mono ?_;rw [hnw];have Hnw : Hid (J0c (log k) = nw) := by rw [Hlk.out]; exact hnw
     clear hnw q0 q1;rintro e w2 ⟨rfl, m2⟩;have e0' := m2.cell e0;have e1' := m2.cell e1;have Hm2 : Hid (More w w2) := Hm.out.1.trans m2;clear m2 e0 e1;have q2 := (Hl.out.2.more Hm2.out) k hk;by_cases hq : (L k : Int) = nw
     ·have Hq : Hid ((L k : Int) = nw) := hq
      have heq : ((L k : Int) != nw) = false := by simp [hq]
      clear hq;go_wp2;go_roundg g
      case measure => omega
      case rel =>
       refine ⟨k + 1, by omega, by first | rfl | (simp; unfold wrap64; omega), fun j hj => ?_, Hm2.out, e0', e1'⟩;by_cases e : j = k
       ·subst e; rw [Hq.out, Hnw.out]
       ·exact Hm.out.2 j (by omega)
     ·have Hq : Hid (¬ (L k : Int) = nw) := hq
      have heq' : ((L k : Int) != nw) = true := by simp [hq]
      clear hq;go_wp2;go_ret;exact Says.no (fun h => Hq.out (by rw [<- Hnw.out]; exact (HP.out.1 h).2.2 k hkr)) Hm2.out
  ·have T : Hid (¬ ml = rl) := fun e => hne (by rw [e])
   have hne' : ((ml : Int) != (rl : Int)) = true := by simp; omega
   clear hne;go_wp2;go_ret;exact Says.no (fun h => T.out (HP.out.1 h).2.1) Hm1.out
end
section
open Go.RowKit
set_option linter.unusedSimpArgs false
set_option linter.unusedVariables false
set_option maxRecDepth 8000
def Told (p : Prg) (f : Int × Int) : Prop := (¬ p.Ok 200 8 /\ f = (2, 0)) \/ (p.Ok 200 8 /\ ∃ l, Known p l /\ f = J09 p l)
theorem Told.ok {p : Prg} {f : Int × Int} (h : Told p f) (h0 : f.1 = 0) : p.Ok 200 8 /\ ∃ l, Known p l /\ (J09 p l).1 = 0 := by
 rcases h with ⟨_, rfl⟩ | ⟨h1, l, h2, rfl⟩
 ·exact absurd h0 (by decide)
 ·exact ⟨h1, l, h2, h0⟩
theorem Told.one {p : Prg} {f g : Int × Int} (h : Told p f) (k : Told p g) : f = g := by
 rcases h with ⟨h1, rfl⟩ | ⟨h1, l, h2, rfl⟩
 ·rcases k with ⟨_, rfl⟩ | ⟨k1, _⟩
  ·rfl
  ·exact absurd k1 h1
 ·rcases k with ⟨k1, _⟩ | ⟨_, l', k2, rfl⟩
  ·exact absurd h1 k1
  ·exact Jea h1 h2 k2

theorem J80 (p : Prg) (l : Loc) (w : World) (hp : PIn w p l) (hf : p.Fit) :
  Calls Tryz.prog 18 #[.agg #[.slice l.ra p.rl l.rc, .slice l.ca p.cl l.cc]] w fun e w' => ∃ f : Int × Int, Told p f /\ e = .returned (.agg #[V f.1, V f.2]) /\ More w w' := by
 by_cases hok : p.Ok 200 8
 ·refine (J7i p l w hp hok (fun i hi => (hf.ins i hi).2.2.2.2)).mono ?_
  rintro e w' ⟨l', h1, rfl, m⟩;exact ⟨_, .inr ⟨hok, l', h1, rfl⟩, rfl, m⟩
 ·exact (Jd2 p l w hp hok).mono (fun e w' ⟨h1, h2⟩ => ⟨(2, 0), .inl ⟨hok, rfl⟩, h1, h2⟩)
theorem Jhw (p : Prg) (l : Loc) (w : World) (hp : PIn w p l) (hok : p.Ok 200 8) :
  Calls Tryz.prog 11 #[.agg #[.slice l.ra p.rl l.rc, .slice l.ca p.cl l.cc]] w fun e w' => e = .returned (.bool true) /\ More w w' := by
 refine (Jfk p l _ hp).mono ?_;rintro e w' ⟨r, rfl, hr, m⟩;cases r with
 | true => exact ⟨rfl, m⟩
 | false => exact absurd (hr.2 hok) (by simp)
theorem J9h (p : Prg) (l : Loc) (m : Mem) (ml : MLoc) (w : World) (hp : PIn w p l) (hm : MRaw w m ml) (r : Bool) (hr : r = true ↔ J0t p.rl p.log m.ml m.len) :
  Calls Tryz.prog 5 #[.agg #[.slice l.ra p.rl l.rc, .slice l.ca p.cl l.cc], .slice ml.ma m.ml ml.mc] w fun e w' => e = .returned (.bool r) /\ More w w' := by
 refine (Jik l.ra p.rl l.rc l.ca p.cl l.cc ml.ma m.ml ml.mc l.rb l.ro ml.mb ml.mo p.log p.sec ml.A m.len ml.C w hp.hr hp.regs hm.hm hm.lists).mono ?_;rintro e w' ⟨q, rfl, hq, mm⟩;have : q = r := Bool.eq_iff_iff.2 (hq.trans hr.symm);rw [this];exact ⟨rfl, mm⟩
theorem Jeh {p : Prg} {m : Mem} (hok : p.Ok 200 8) (h : J0t p.rl p.log m.ml m.len) : m.ml = p.rl /\ m.ml <= 6 /\ (∀ i, i < m.ml -> (m.len i : Int) = J0c (p.log i)) /\ ∀ i, i < m.ml -> m.len i <= 64 := by
 have h1 : m.ml = p.rl := h.2.1;refine ⟨h1, by rw [h1]; exact hok.1.1, fun i hi => h.2.2 i (by omega), fun i hi => ?_⟩;have h2 := h.2.2 i (by omega);have h3 := hok.1.2 i (by omega);have h4 := J2h (k := (p.log i).toNat) (by omega);unfold J0c at h2;omega
theorem Jjk : (Tryz.prog.info? 56).map (fun i => (i.zero, i.size, i.bytes)) = some (some (.agg #[V 0, .bool false]), 2, 16) := by kernel_rfl

abbrev st (b : Bool) (g c : Nat) : Value := .agg #[.bool b, .slice (some ⟨g, 0, none⟩) 8 c]

theorem J0l (b : Bool) (g c : Nat) (s : KS) (w : World) (h : KRow w g s) :
  Calls Tryz.prog 27 #[st b g c] w fun e w' => ∃ g' c', e = .returned (st b g' c') /\ w.heap.size <= g' /\ KRow w' g' s /\ More w w' := by
 obtain ⟨i0, hi, hz0, hz1, hz2⟩ := info_parts Jjk;have Hi : Hid (Tryz.prog.info? 56 = some i0 /\ i0.zero = some (.agg #[V 0, .bool false]) /\ i0.size = 2 /\ i0.bytes = 16) := ⟨hi, hz0, hz1, hz2⟩;have H : Hid (KRow w g s) := h;clear h hi hz0 hz1 hz2;unfold st;obtain ⟨W, HW⟩ : ∃ W : World, Hid (W = (w.alloc (.cells #[.bool b, .slice (some ⟨g, 0, none⟩) 8 c] 50)).alloc (.cells #[.bool false, .slice none 0 0] 50)) := ⟨_, rfl⟩;have HmW : Hid (More w W /\ W.heap.size = w.heap.size + 2) := HW.out ▸ ⟨((More.refl _).alloc _ _).alloc _ _, by simp⟩;have a0 : W.cell? ⟨w.heap.size, 0, none⟩ = some (.bool b) := by rw [HW.out]; go_simp
 have a1 : W.cell? ⟨w.heap.size, 1, none⟩ = some (.slice (some ⟨g, 0, none⟩) 8 c) := by rw [HW.out]; go_simp
 obtain ⟨S, HS⟩ : ∃ S : World -> Prop, Hid (∀ w', S w' ↔ (w'.cell? ⟨w.heap.size, 0, none⟩ = some (.bool b) /\ w'.cell? ⟨w.heap.size, 1, none⟩ = some (.slice (some ⟨g, 0, none⟩) 8 c))) := ⟨_, fun _ => Iff.rfl⟩;have HS0 : S W.drew := (HS.out _).2 ⟨a0, a1⟩;have hne : Nonempty { w' // S w' } := ⟨⟨_, HS0⟩⟩;have k0 : ∀ i : { w' // S w' }, i.val.cell? ⟨w.heap.size, 0, none⟩ = some (.bool b) := fun i => ((HS.out _).1 i.property).1
 have k1 : ∀ i : { w' // S w' }, i.val.cell? ⟨w.heap.size, 1, none⟩ = some (.slice (some ⟨g, 0, none⟩) 8 c) := fun i => ((HS.out _).1 i.property).2
 have Hown : Hid ((W.drew.alloc (.cells #[] 56)).ownsRow W.heap.size 56 2 (.slice (some ⟨W.heap.size, 0, none⟩) 0 0) 0 []) := World.ownsRow_made W.drew #[] 0 (Nat.le_refl _) (by unfold maxLen; omega) rfl;have Hnews : Hid (∀ j u, (flatK s 8)[j]? = some u -> (W.drew.alloc (.cells #[] 56)).cell? ((⟨g, 0, none⟩ : Addr).add j) = some u) := Jh6 (H.out.more (HmW.out.1.drew.alloc _ _));go_enter Tryz.func27, Tryz.ntmps27;go_wp2_with (fail)
 rw [<- HW.out];refine J03 (S := S) [(0, true), (1, true), (3, true), (4, true), (2, false), (5, false), (6, true), (7, false)] (by kernel_rfl) (by kernel_rfl) (by kernel_rfl) HS0 ?_
 iterate 4 (refine J00 rfl (by kernel_rfl) (fun K hK => ?_); go_simp; refine hK _ _ ?_; clear hK K)
 refine J02 rfl (by kernel_rfl) (fun K hK => ?_); go_simp;refine hK _ _ ((HS.out _).2 ⟨((More.refl _).drew.alloc _ _).cell a0, ((More.refl _).drew.alloc _ _).cell a1⟩) ?_; clear hK K;refine J02 rfl (by kernel_rfl) (fun K hK => ?_);refine wp_append_lies _ (.tmp 5) (.tmp 7) 48 rfl W.heap.size 56 i0 (.agg #[V 0, .bool false]) 2 16 Tryz.underlying48 Hi.out.1 Hi.out.2.1 Hi.out.2.2.1 Hi.out.2.2.2 rfl (by decide) (.slice (some ⟨W.heap.size, 0, none⟩) 0 0) 0 [] rfl Hown.out ⟨g, 0, none⟩ 8 c (flatK s 8) rfl (by rw [J0v]) Hnews.out (J4v s 8) (by decide) (by unfold maxLen; omega) (by omega) (by simp) (W.heap.size + 1) (by simp) ?_;intro g1 cap w2 own2 gr2 hat2 hlt2;simp only [Value.ownBlock] at gr2 hat2;simp only [Nat.zero_add, List.nil_append] at own2;have hs2 := HmW.out.2
 have Hg1 : Hid (w.heap.size + 1 < g1) := by
  show _ < _;rcases hat2 with q | q
  ·have := Option.some.inj q; omega
  ·omega
 have Hm2 : Hid (More w w2) := ((HmW.out.1.alloc _ _).drew).grownBy gr2 (fun k hk => by have := Option.some.inj hk; omega);have c0 : w2.cell? ⟨w.heap.size, 0, none⟩ = some (.bool b) := gr2.cell (((More.refl _).drew.alloc _ _).cell a0) (by simp; omega);have c1 : w2.cell? ⟨w.heap.size, 1, none⟩ = some (.slice (some ⟨g, 0, none⟩) 8 c) := gr2.cell (((More.refl _).drew.alloc _ _).cell a1) (by simp; omega)
 have hblk : w2.heap[w.heap.size + 1]? = some (.cells #[.bool false, .slice none 0 0] 50 (0, 0)) := by
  have e1 := gr2.block (w.heap.size + 1) (by simp; omega) (by simp; omega);rw [e1];have e2 := ((More.refl W).alloc #[] 56).drew.block (w.heap.size + 1) (by omega);rw [e2, HW.out];have := heap_alloc_last (w.alloc (.cells #[.bool b, .slice (some ⟨g, 0, none⟩) 8 c] 50)) (.cells #[.bool false, .slice none 0 0] 50);simpa using this
 have d0 : w2.cell? ⟨w.heap.size + 1, 0, none⟩ = some (.bool false) := by rw [cell_of_row _ _ _ _ _ _ hblk]; rfl
 have d1 : w2.cell? ⟨w.heap.size + 1, 1, none⟩ = some (.slice none 0 0) := by rw [cell_of_row _ _ _ _ _ _ hblk]; rfl
 have f0 : w2.frozen? ⟨w.heap.size + 1, 0, none⟩ = false := frozen_of_row _ _ _ _ _ hblk;have f1 : w2.frozen? ⟨w.heap.size + 1, 1, none⟩ = false := frozen_of_row _ _ _ _ _ hblk;have HR : Hid (KRow w2 g1 s) := Jb8 own2;clear own2 gr2 hat2 hlt2 hblk hs2 a0 a1
 go_simp
 refine hK _ _ ((HS.out _).2 ⟨c0, c1⟩) ?_; clear hK K;refine J00 rfl (by kernel_rfl) (fun K hK => ?_); go_simp; refine hK _ _ ?_; clear hK K;refine J02 rfl (by kernel_rfl) (fun K hK => ?_); go_simp;refine hK _ _ ((HS.out _).2 ⟨by go_simp, by go_simp⟩) ?_; clear hK K;refine J04 ?_;clear k0 k1 hne HS0;go_wp2;refine bodyPost_ret (by simp [results, Tryz.results27, go_sem, *]) rfl ⟨g1, cap, rfl, by have := Hg1.out; omega, ?_, ?_⟩
 ·exact (HR.out.other (by have := Hg1.out; omega) _ _).other (by have := Hg1.out; omega) _ _
 ·exact (Hm2.out.setCell (by simp) _).setCell (by simp) _
end
section
open Go.RowKit
set_option linter.unusedVariables false
theorem J24 (a : Int) (sa : Bool) (w : World) :
  Calls Tryz.prog 46 #[kn a sa] w fun e w' => e = .returned (kn (bnd a) sa) /\ w' = (w.alloc (.cells #[V (bnd a), .bool sa] 56)).alloc (.cells #[V (bnd a), .bool sa] 56) := by
 unfold kn;by_cases h : a < 0
 ·rw [J3g (.inl h)]
  go_enter Tryz.func46, Tryz.ntmps46;go_wp2;exact bodyPost_ret (by simp [results, Tryz.results46, go_sem]) rfl ⟨rfl, rfl⟩
 by_cases h2 : 16 < a
 ·rw [J3g (.inr h2)]
  go_enter Tryz.func46, Tryz.ntmps46;go_wp2;exact bodyPost_ret (by simp [results, Tryz.results46, go_sem]) rfl ⟨rfl, rfl⟩
 ·rw [J6a (by omega) (by omega)]
  go_enter Tryz.func46, Tryz.ntmps46;go_wp2;exact bodyPost_ret (by simp [results, Tryz.results46, go_sem]) rfl ⟨rfl, rfl⟩

theorem J4d (n : Int) (h0 : 0 <= n) (w : World) :
  Calls Tryz.prog 47 #[V n] w fun e w' => e = .returned (V (bnd n)) /\ w' = w := by
 by_cases h2 : 16 < n
 ·rw [J3g (.inr h2)]
  go_enter Tryz.func47, Tryz.ntmps47;go_wp2;go_ret;exact ⟨rfl, rfl⟩
 ·rw [J6a (by omega) (by omega)]
  go_enter Tryz.func47, Tryz.ntmps47;go_wp2;go_ret;exact ⟨rfl, rfl⟩

theorem Jbf (b : Nat) (hb : b <= 16) (w : World) :
  Calls Tryz.prog 70 #[V b] w fun e w' => e = .returned (V (2 ^ b)) /\ w' = w := by
 obtain ⟨R, hR⟩ : ∃ R : Int, (2 ^ b : Int) = R := ⟨_, rfl⟩;rw [hR];have HR : Hid ((2 ^ b : Int) = R) := hR;clear hR;go_enter Tryz.func70, Tryz.ntmps70;go_wp2;go_loopg [3, 4] b (fun g nv iv wr => ∃ (k : Nat) (p : Int), k + g = b /\ Hid (p = ((2 ^ k : Nat) : Int)) /\ 0 <= p /\ p <= 65536 /\ nv = V p /\ iv = V k /\ wr = w)
 case atStart => exact ⟨0, 1, by omega, rfl, by omega, by omega, rfl, rfl, rfl⟩
 case round =>
  obtain ⟨k, p, hkg, hp, p0, p1, rfl, rfl, rfl⟩ := hrel;cases gk with
  | zero =>
   obtain rfl : k = b := by omega
   go_wp2;go_ret;exact ⟨by rw [<- HR.out, hp.out, J2r]; rfl, rfl⟩
  | succ g =>
   have hk : (k : Int) < b := by omega
   have hpn : Hid (p + p = ((2 ^ (k + 1) : Nat) : Int)) := by show p + p = _; rw [hp.out, Nat.pow_succ]; omega
   have hpb : p <= 32768 := by
    rw [hp.out];have : 2 ^ k <= 2 ^ 15 := Nat.pow_le_pow_right (by omega) (by omega);omega
   go_wp2;go_roundg g
   case measure => omega
   case rel => exact ⟨k + 1, p + p, by omega, hpn, by omega, by omega, rfl, by first | rfl | simp, rfl⟩

theorem Jim (a n : Int) (sa : Bool) (h : bnd a = 17) (w : World) :
  Calls Tryz.prog 45 #[kn a sa, V n] w fun e w' => e = .returned (.bool true) /\ More w w' := by
 have c := fun w => J24 a sa w
 rw [h] at c;unfold kn at *;go_enter Tryz.func45, Tryz.ntmps45;go_wp2_with (fail)
 refine (c _).mono ?_;rintro e w1 ⟨rfl, rfl⟩;go_wp2;go_ret;exact ⟨rfl, (((More.refl _).alloc _ _).alloc _ _).alloc _ _⟩

theorem Jfp (a n x p : Int) (sa : Bool) (hx : bnd a = x) (hn : (x == 17) = false)
  (cp : ∀ w : World, Calls Tryz.prog 70 #[V x] w fun e w' => e = .returned (V p) /\ w' = w) (r : Bool) (hr : (decide (0 <= n) && decide (n < p)) = r) (w : World) :
  Calls Tryz.prog 45 #[kn a sa, V n] w fun e w' => e = .returned (.bool r) /\ More w w' := by
 have c := fun w => J24 a sa w
 rw [hx] at c;clear hx;unfold kn at *;by_cases h0 : 0 <= n
 ·have e0 : decide (0 <= n) = true := by simp [h0]
  rw [e0, Bool.true_and] at hr;go_enter Tryz.func45, Tryz.ntmps45;go_wp2_with (fail)
  refine (c _).mono ?_;rintro e w1 ⟨rfl, rfl⟩;go_wp2_with (fail)
  refine (cp _).mono ?_;rintro e w1 ⟨rfl, rfl⟩;go_wp2;go_ret;exact ⟨rfl, (((More.refl _).alloc _ _).alloc _ _).alloc _ _⟩
 ·have e0 : decide (0 <= n) = false := by simp [h0]
  rw [e0, Bool.false_and] at hr;subst hr;go_enter Tryz.func45, Tryz.ntmps45;go_wp2_with (fail)
  refine (c _).mono ?_;rintro e w1 ⟨rfl, rfl⟩;go_wp2;go_ret;exact ⟨rfl, (((More.refl _).alloc _ _).alloc _ _).alloc _ _⟩

theorem Jdy (a n : Int) (sa : Bool) (w : World) :
  Calls Tryz.prog 45 #[kn a sa, V n] w fun e w' => e = .returned (.bool (hasI a n)) /\ More w w' := by
 by_cases h : bnd a = 17
 ·rw [J8i h]; exact Jim a n sa h w
 ·have hr := J0j a
  have e : hasI a n = (decide (0 <= n) && decide (n < 2 ^ (bnd a).toNat)) := by
   unfold hasI; rw [Bool.eq_iff_iff]; simp [h]
  rw [e];have hb : (((bnd a).toNat : Nat) : Int) = bnd a := by omega
  exact Jfp a n (bnd a) _ sa rfl (by simp [h]) (fun w => hb ▸ Jbf (bnd a).toNat (by omega) w) _ rfl w

theorem J74 (n : Int) (n0 : -9223372036854775808 <= n) (n1 : n <= 9223372036854775807) (w : World) :
  Calls Tryz.prog 29 #[V n] w fun e w' => e = .returned (kn (fitI n) false) /\ More w w' := by
 obtain ⟨f, hf⟩ : ∃ f, fitI n = f := ⟨_, rfl⟩;have hfr := J4u n
 have c : ∀ k : Nat, k <= 16 -> ∀ w : World, Calls Tryz.prog 45 #[.agg #[V (k : Int), .bool false], V n] w fun e w' => e = .returned (.bool (decide (f <= (k : Int)))) /\ More w w' := by
  intro k hk w;have h := Jdy (k : Int) n false w;rw [J8j n0 n1, J6a (by omega) (by omega), hf] at h;exact h
 rw [hf] at hfr |-;have C : Hid (∀ k : Nat, k <= 16 -> ∀ w : World, Calls Tryz.prog 45 #[.agg #[V (k : Int), .bool false], V n] w fun e w' => e = .returned (.bool (decide (f <= (k : Int)))) /\ More w w') := c;clear hf c n0 n1;unfold kn;go_enter Tryz.func29, Tryz.ntmps29;go_wp2;have hz : Hid (More w (w.alloc (.cells #[V 0, .bool false] 56)) /\ ∃ wz : World, More (w.alloc (.cells #[V 0, .bool false] 56)) wz) := ⟨(More.refl _).alloc _ _, _, More.refl _⟩;go_loopg [3] 17 (fun g iv wr => ∃ k : Nat, k + g = 17 /\ (k : Int) <= f /\ iv = V k /\ Hid (More (w.alloc (.cells #[V 0, .bool false] 56)) wr))
 case atStart => exact ⟨0, by omega, by omega, rfl, More.refl _⟩
 case round =>
  obtain ⟨k, hkg, hkf, rfl, Hm⟩ := hrel
  have kf : ∀ {w' : World}, More wr w' -> ∀ j, w'.frozen? ⟨w.heap.size, j, none⟩ = false := fun h j => by
   have hb := (Hm.out.trans h).block w.heap.size (by simp);rw [heap_alloc_last] at hb;exact frozen_of_row _ _ _ _ _ hb
  have k0 : ∀ {w' : World}, More wr w' -> w'.cell? ⟨w.heap.size, 0, none⟩ = some (V 0) := fun h => (Hm.out.trans h).cell (by go_simp)
  have k1 : ∀ {w' : World}, More wr w' -> w'.cell? ⟨w.heap.size, 1, none⟩ = some (.bool false) := fun h => (Hm.out.trans h).cell (by go_simp)
  have hm : Hid (More w wr) := ((More.refl _).alloc _ _).trans Hm.out;cases gk with
  | zero =>
   obtain rfl : k = 17 := by omega
   obtain rfl : f = 17 := by omega
   have q0 := k0 (More.refl _);have q1 := k1 (More.refl _);have q2 := kf (More.refl _) 0;have q3 := kf (More.refl _) 1;clear k0 k1 kf;go_wp2;exact bodyPost_ret (by simp [results, Tryz.results29, go_sem, *]) rfl ⟨rfl, (hm.out.setCell (by simp) _).setCell (by simp) _⟩
  | succ g =>
   have hk17 : (k : Int) < 17 := by omega
   go_wp2_with (fail)
   refine (C.out k (by omega) _).mono ?_;rintro e w1 ⟨rfl, m1⟩;have q0 := k0 m1;have q1 := k1 m1;have q2 := kf m1 0;have q3 := kf m1 1;have Hm1 : Hid (More wr w1) := m1;clear k0 k1 kf m1;by_cases hfk : f <= (k : Int)
   ·obtain rfl : f = (k : Int) := by omega
    go_wp2;exact bodyPost_ret (by simp [results, Tryz.results29, go_sem, *]) rfl ⟨rfl, ((hm.out.trans Hm1.out).setCell (by simp) _).setCell (by simp) _⟩
   ·go_wp2
    go_roundg g
    case measure => omega
    case rel => exact ⟨k + 1, by omega, by omega, by first | rfl | simp, Hm.out.trans Hm1.out⟩

theorem Jio (a b x y r : Int) (sa sb : Bool) (c1 : (∀ w : World, Calls Tryz.prog 46 #[kn a sa] w fun e w' => e = .returned (kn x sa) /\ w' = (w.alloc (.cells #[V x, .bool sa] 56)).alloc (.cells #[V x, .bool sa] 56))) (c2 : (∀ w : World, Calls Tryz.prog 46 #[kn b sb] w fun e w' => e = .returned (kn y sb) /\ w' = (w.alloc (.cells #[V y, .bool sb] 56)).alloc (.cells #[V y, .bool sb] 56))) (lt : Bool) (hlt : decide (y < x) = lt) (hr : r = bif lt then y else x) (w : World) :
  Calls Tryz.prog 30 #[kn a sa, kn b sb] w fun e w' => e = .returned (kn r sa) /\ More w w' := by
 unfold kn at *;cases lt
 all_goals
  simp only [cond_true, cond_false] at hr;subst hr;go_enter Tryz.func30, Tryz.ntmps30;go_wp2_with (fail)
  refine (c1 _).mono ?_;rintro e w1 ⟨rfl, rfl⟩;go_wp2_with (fail)
  refine (c2 _).mono ?_;rintro e w1 ⟨rfl, rfl⟩;go_wp2;exact bodyPost_ret (by simp [results, Tryz.results30, go_sem]) rfl ⟨rfl, ((((((((More.refl _).alloc _ _).alloc _ _).alloc _ _).alloc _ _).alloc _ _).alloc _ _).alloc _ _)⟩

theorem J73 (a b : Int) (sa sb : Bool) (w : World) :
  Calls Tryz.prog 30 #[kn a sa, kn b sb] w fun e w' => e = .returned (kn (min (bnd a) (bnd b)) sa) /\ More w w' :=
 Jio a b _ _ _ sa sb (J24 a sa) (J24 b sb) _ rfl (by by_cases h : bnd b < bnd a <;> simp [h] <;> omega) w

theorem Jin (a b x y r : Int) (sa sb : Bool) (c1 : (∀ w : World, Calls Tryz.prog 46 #[kn a sa] w fun e w' => e = .returned (kn x sa) /\ w' = (w.alloc (.cells #[V x, .bool sa] 56)).alloc (.cells #[V x, .bool sa] 56))) (c2 : (∀ w : World, Calls Tryz.prog 46 #[kn b sb] w fun e w' => e = .returned (kn y sb) /\ w' = (w.alloc (.cells #[V y, .bool sb] 56)).alloc (.cells #[V y, .bool sb] 56))) (lt : Bool) (hlt : decide (x < y) = lt) (hr : r = bif lt then y else x) (w : World) :
  Calls Tryz.prog 44 #[kn a sa, kn b sb] w fun e w' => e = .returned (kn r (sa || sb)) /\ More w w' := by
 unfold kn at *;cases lt <;> cases sa
 all_goals
  simp only [cond_true, cond_false] at hr;subst hr;go_enter Tryz.func44, Tryz.ntmps44;go_wp2_with (fail)
  refine (c1 _).mono ?_;rintro e w1 ⟨rfl, rfl⟩;go_wp2_with (fail)
  refine (c2 _).mono ?_;rintro e w1 ⟨rfl, rfl⟩;go_wp2;exact bodyPost_ret (by simp [results, Tryz.results44, go_sem]) rfl ⟨rfl, ((((((((More.refl _).alloc _ _).alloc _ _).alloc _ _).alloc _ _).alloc _ _).alloc _ _).alloc _ _)⟩

theorem Jbi (a b : Int) (sa sb : Bool) (w : World) :
  Calls Tryz.prog 44 #[kn a sa, kn b sb] w fun e w' => e = .returned (kn (max (bnd a) (bnd b)) (sa || sb)) /\ More w w' :=
 Jin a b _ _ _ sa sb (J24 a sa) (J24 b sb) _ rfl (by by_cases h : bnd a < bnd b <;> simp [h] <;> omega) w
theorem Jmr (a b x y g l : Int) (sa sb : Bool) (c1 : (∀ w : World, Calls Tryz.prog 46 #[kn a sa] w fun e w' => e = .returned (kn x sa) /\ w' = (w.alloc (.cells #[V x, .bool sa] 56)).alloc (.cells #[V x, .bool sa] 56))) (c2 : (∀ w : World, Calls Tryz.prog 46 #[kn b sb] w fun e w' => e = .returned (kn y sb) /\ w' = (w.alloc (.cells #[V y, .bool sb] 56)).alloc (.cells #[V y, .bool sb] 56))) (lt : Bool) (hlt : decide (x < y) = lt) (hg : g = bif lt then y else x) (hl : l = bif lt then x else y) (g0 : 0 <= g) (g1 : g <= 17) (l0 : 0 <= l) (l1 : l <= 17) (u : Int) (cu : ∀ w : World, Calls Tryz.prog 47 #[V (g + 1)] w fun e w' => e = .returned (V u) /\ w' = w) (hz : (l == 0) = true) (w : World) :
  Calls Tryz.prog 31 #[V 1, kn a sa, kn b sb] w fun e w' => e = .returned (kn (g) (sa || sb)) /\ More w w' := by
 unfold kn at *;cases lt <;> cases sa
 all_goals
  simp only [cond_true, cond_false] at hg hl;subst hg hl;go_enter Tryz.func31, Tryz.ntmps31;go_wp2_with (fail)
  refine (c1 _).mono ?_;rintro e w1 ⟨rfl, rfl⟩;go_wp2_with (fail)
  refine (c2 _).mono ?_;rintro e w1 ⟨rfl, rfl⟩;go_wp2_with (fail)
  refine (cu _).mono ?_;rintro e w1 ⟨rfl, rfl⟩;go_wp2;exact bodyPost_ret (by simp [results, Tryz.results31, go_sem]) rfl ⟨rfl, (((((((((More.refl _).alloc _ _).alloc _ _).alloc _ _).alloc _ _).alloc _ _).alloc _ _).alloc _ _).alloc _ _)⟩

theorem rop_1 (a b x y g l : Int) (sa sb : Bool) (c1 : (∀ w : World, Calls Tryz.prog 46 #[kn a sa] w fun e w' => e = .returned (kn x sa) /\ w' = (w.alloc (.cells #[V x, .bool sa] 56)).alloc (.cells #[V x, .bool sa] 56))) (c2 : (∀ w : World, Calls Tryz.prog 46 #[kn b sb] w fun e w' => e = .returned (kn y sb) /\ w' = (w.alloc (.cells #[V y, .bool sb] 56)).alloc (.cells #[V y, .bool sb] 56))) (lt : Bool) (hlt : decide (x < y) = lt) (hg : g = bif lt then y else x) (hl : l = bif lt then x else y) (g0 : 0 <= g) (g1 : g <= 17) (l0 : 0 <= l) (l1 : l <= 17) (u : Int) (cu : ∀ w : World, Calls Tryz.prog 47 #[V (g + 1)] w fun e w' => e = .returned (V u) /\ w' = w) (hz : (l == 0) = false) (w : World) :
  Calls Tryz.prog 31 #[V 1, kn a sa, kn b sb] w fun e w' => e = .returned (kn (u) (sa || sb)) /\ More w w' := by
 unfold kn at *;cases lt <;> cases sa
 all_goals
  simp only [cond_true, cond_false] at hg hl;subst hg hl;go_enter Tryz.func31, Tryz.ntmps31;go_wp2_with (fail)
  refine (c1 _).mono ?_;rintro e w1 ⟨rfl, rfl⟩;go_wp2_with (fail)
  refine (c2 _).mono ?_;rintro e w1 ⟨rfl, rfl⟩;go_wp2_with (fail)
  refine (cu _).mono ?_;rintro e w1 ⟨rfl, rfl⟩;go_wp2;exact bodyPost_ret (by simp [results, Tryz.results31, go_sem]) rfl ⟨rfl, (((((((((More.refl _).alloc _ _).alloc _ _).alloc _ _).alloc _ _).alloc _ _).alloc _ _).alloc _ _).alloc _ _)⟩

theorem Jms (a b x y g l : Int) (sa sb : Bool) (c1 : (∀ w : World, Calls Tryz.prog 46 #[kn a sa] w fun e w' => e = .returned (kn x sa) /\ w' = (w.alloc (.cells #[V x, .bool sa] 56)).alloc (.cells #[V x, .bool sa] 56))) (c2 : (∀ w : World, Calls Tryz.prog 46 #[kn b sb] w fun e w' => e = .returned (kn y sb) /\ w' = (w.alloc (.cells #[V y, .bool sb] 56)).alloc (.cells #[V y, .bool sb] 56))) (lt : Bool) (hlt : decide (x < y) = lt) (hg : g = bif lt then y else x) (hl : l = bif lt then x else y) (g0 : 0 <= g) (g1 : g <= 17) (l0 : 0 <= l) (l1 : l <= 17) (u : Int) (cu : ∀ w : World, Calls Tryz.prog 47 #[V (g + l)] w fun e w' => e = .returned (V u) /\ w' = w) (hz : (l == 0) = true) (w : World) :
  Calls Tryz.prog 31 #[V 3, kn a sa, kn b sb] w fun e w' => e = .returned (kn (0) (sa || sb)) /\ More w w' := by
 unfold kn at *;cases lt <;> cases sa
 all_goals
  simp only [cond_true, cond_false] at hg hl;subst hg hl;go_enter Tryz.func31, Tryz.ntmps31;go_wp2_with (fail)
  refine (c1 _).mono ?_;rintro e w1 ⟨rfl, rfl⟩;go_wp2_with (fail)
  refine (c2 _).mono ?_;rintro e w1 ⟨rfl, rfl⟩;go_wp2_with (fail)
  refine (cu _).mono ?_;rintro e w1 ⟨rfl, rfl⟩;go_wp2;exact bodyPost_ret (by simp [results, Tryz.results31, go_sem]) rfl ⟨rfl, (((((((((More.refl _).alloc _ _).alloc _ _).alloc _ _).alloc _ _).alloc _ _).alloc _ _).alloc _ _).alloc _ _)⟩

theorem rop_3 (a b x y g l : Int) (sa sb : Bool) (c1 : (∀ w : World, Calls Tryz.prog 46 #[kn a sa] w fun e w' => e = .returned (kn x sa) /\ w' = (w.alloc (.cells #[V x, .bool sa] 56)).alloc (.cells #[V x, .bool sa] 56))) (c2 : (∀ w : World, Calls Tryz.prog 46 #[kn b sb] w fun e w' => e = .returned (kn y sb) /\ w' = (w.alloc (.cells #[V y, .bool sb] 56)).alloc (.cells #[V y, .bool sb] 56))) (lt : Bool) (hlt : decide (x < y) = lt) (hg : g = bif lt then y else x) (hl : l = bif lt then x else y) (g0 : 0 <= g) (g1 : g <= 17) (l0 : 0 <= l) (l1 : l <= 17) (u : Int) (cu : ∀ w : World, Calls Tryz.prog 47 #[V (g + l)] w fun e w' => e = .returned (V u) /\ w' = w) (hz : (l == 0) = false) (w : World) :
  Calls Tryz.prog 31 #[V 3, kn a sa, kn b sb] w fun e w' => e = .returned (kn (u) (sa || sb)) /\ More w w' := by
 unfold kn at *;cases lt <;> cases sa
 all_goals
  simp only [cond_true, cond_false] at hg hl;subst hg hl;go_enter Tryz.func31, Tryz.ntmps31;go_wp2_with (fail)
  refine (c1 _).mono ?_;rintro e w1 ⟨rfl, rfl⟩;go_wp2_with (fail)
  refine (c2 _).mono ?_;rintro e w1 ⟨rfl, rfl⟩;go_wp2_with (fail)
  refine (cu _).mono ?_;rintro e w1 ⟨rfl, rfl⟩;go_wp2;exact bodyPost_ret (by simp [results, Tryz.results31, go_sem]) rfl ⟨rfl, (((((((((More.refl _).alloc _ _).alloc _ _).alloc _ _).alloc _ _).alloc _ _).alloc _ _).alloc _ _).alloc _ _)⟩
theorem rop_4 (a b x y g l : Int) (sa sb : Bool) (c1 : (∀ w : World, Calls Tryz.prog 46 #[kn a sa] w fun e w' => e = .returned (kn x sa) /\ w' = (w.alloc (.cells #[V x, .bool sa] 56)).alloc (.cells #[V x, .bool sa] 56))) (c2 : (∀ w : World, Calls Tryz.prog 46 #[kn b sb] w fun e w' => e = .returned (kn y sb) /\ w' = (w.alloc (.cells #[V y, .bool sb] 56)).alloc (.cells #[V y, .bool sb] 56))) (lt : Bool) (hlt : decide (x < y) = lt) (hg : g = bif lt then y else x) (hl : l = bif lt then x else y) (w : World) :
  Calls Tryz.prog 31 #[V 4, kn a sa, kn b sb] w fun e w' => e = .returned (kn (l) (sa || sb)) /\ More w w' := by
 unfold kn at *;cases lt <;> cases sa
 all_goals
  simp only [cond_true, cond_false] at hg hl;subst hg hl;go_enter Tryz.func31, Tryz.ntmps31;go_wp2_with (fail)
  refine (c1 _).mono ?_;rintro e w1 ⟨rfl, rfl⟩;go_wp2_with (fail)
  refine (c2 _).mono ?_;rintro e w1 ⟨rfl, rfl⟩;go_wp2;exact bodyPost_ret (by simp [results, Tryz.results31, go_sem]) rfl ⟨rfl, (((((((((More.refl _).alloc _ _).alloc _ _).alloc _ _).alloc _ _).alloc _ _).alloc _ _).alloc _ _).alloc _ _)⟩

theorem rop_5 (a b x y g l : Int) (sa sb : Bool) (c1 : (∀ w : World, Calls Tryz.prog 46 #[kn a sa] w fun e w' => e = .returned (kn x sa) /\ w' = (w.alloc (.cells #[V x, .bool sa] 56)).alloc (.cells #[V x, .bool sa] 56))) (c2 : (∀ w : World, Calls Tryz.prog 46 #[kn b sb] w fun e w' => e = .returned (kn y sb) /\ w' = (w.alloc (.cells #[V y, .bool sb] 56)).alloc (.cells #[V y, .bool sb] 56))) (lt : Bool) (hlt : decide (x < y) = lt) (hg : g = bif lt then y else x) (hl : l = bif lt then x else y) (w : World) :
  Calls Tryz.prog 31 #[V 5, kn a sa, kn b sb] w fun e w' => e = .returned (kn (g) (sa || sb)) /\ More w w' := by
 unfold kn at *;cases lt <;> cases sa
 all_goals
  simp only [cond_true, cond_false] at hg hl;subst hg hl;go_enter Tryz.func31, Tryz.ntmps31;go_wp2_with (fail)
  refine (c1 _).mono ?_;rintro e w1 ⟨rfl, rfl⟩;go_wp2_with (fail)
  refine (c2 _).mono ?_;rintro e w1 ⟨rfl, rfl⟩;go_wp2;exact bodyPost_ret (by simp [results, Tryz.results31, go_sem]) rfl ⟨rfl, (((((((((More.refl _).alloc _ _).alloc _ _).alloc _ _).alloc _ _).alloc _ _).alloc _ _).alloc _ _).alloc _ _)⟩

theorem rop_6 (a b x y g l : Int) (sa sb : Bool) (c1 : (∀ w : World, Calls Tryz.prog 46 #[kn a sa] w fun e w' => e = .returned (kn x sa) /\ w' = (w.alloc (.cells #[V x, .bool sa] 56)).alloc (.cells #[V x, .bool sa] 56))) (c2 : (∀ w : World, Calls Tryz.prog 46 #[kn b sb] w fun e w' => e = .returned (kn y sb) /\ w' = (w.alloc (.cells #[V y, .bool sb] 56)).alloc (.cells #[V y, .bool sb] 56))) (lt : Bool) (hlt : decide (x < y) = lt) (hg : g = bif lt then y else x) (hl : l = bif lt then x else y) (w : World) :
  Calls Tryz.prog 31 #[V 6, kn a sa, kn b sb] w fun e w' => e = .returned (kn (g) (sa || sb)) /\ More w w' := by
 unfold kn at *;cases lt <;> cases sa
 all_goals
  simp only [cond_true, cond_false] at hg hl;subst hg hl;go_enter Tryz.func31, Tryz.ntmps31;go_wp2_with (fail)
  refine (c1 _).mono ?_;rintro e w1 ⟨rfl, rfl⟩;go_wp2_with (fail)
  refine (c2 _).mono ?_;rintro e w1 ⟨rfl, rfl⟩;go_wp2;exact bodyPost_ret (by simp [results, Tryz.results31, go_sem]) rfl ⟨rfl, (((((((((More.refl _).alloc _ _).alloc _ _).alloc _ _).alloc _ _).alloc _ _).alloc _ _).alloc _ _).alloc _ _)⟩
end
end Go.Proofs.YtapagihngaiebaaGreat
