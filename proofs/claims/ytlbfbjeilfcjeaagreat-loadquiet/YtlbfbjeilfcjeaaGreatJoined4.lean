/-
  The texts CvCheck, Shape, InsBox, InsA, InsB, InsC, InsD, RefForm, Open, Fuel, Arr, Bits, one behind the other, with what is used of them.
-/
import Derived.Test.YtlbfbjeilfcjeaaGreatJoined3
import Derived.Test.YtlbfbjeilfcjeaaGreatRows
import Derived.WalkKit
import Derived.Deep.LoopGhost
import Derived.Test.YtlbfbjeilfcjeaaGreatJoined0
import Derived.ProofKit
import Derived.OpenShut
import Derived.Deep.Slices
import Derived.Deep.SlicePairs
import Derived.Deep.Matrix
import Derived.Lib.SmallJoins
import Derived.Deep.WholeRow
import Derived.Test.YtlbfbjeilfcjeaaGreatProg
import Derived.WalkSpells
import Derived.WalkLawsBesides
namespace Go.Proofs.YtlbfbjeilfcjeaaGreat
set_option maxHeartbeats 4000000
section
open Go.RowKit
set_option linter.unusedSimpArgs false
set_option linter.unusedVariables false
set_option maxRecDepth 8000
theorem Jah (cl : Nat) (B : Nat) (w : World) (h : Blk w B (madeCells #[.int .i64 0, .bool false, .int .i64 0, .bool false, .int .i64 0, .bool false, .int .i64 0, .bool false, .int .i64 0, .bool false, .int .i64 0, .bool false, .int .i64 0, .bool false, .int .i64 0, .bool false, .bool false] (cl * 17)) 131) : PlS w B cl (fun _ => none) := by
 refine ⟨_, h, size_madeCells _ _, fun k j hk hj => ?_⟩;rw [Jk5];unfold madeCells;rw [Array.getElem?_map, Array.getElem?_range, if_pos (by omega)];have hm : (k * 17 + j) % 17 = j := by omega
 have hz : (#[.int .i64 0, .bool false, .int .i64 0, .bool false, .int .i64 0, .bool false, .int .i64 0, .bool false, .int .i64 0, .bool false, .int .i64 0, .bool false, .int .i64 0, .bool false, .int .i64 0, .bool false, .bool false] : Array Value).size = 17 := rfl;simp only [Option.map_some];rw [hz, hm];rw [getElem!_pos _ j (by omega), Array.getElem?_eq_getElem (by omega)]
theorem Jgi : ∃ i, Tryz.prog.info? 131 = some i /\ i.zero = some (.agg #[.int .i64 0, .bool false, .int .i64 0, .bool false, .int .i64 0, .bool false, .int .i64 0, .bool false, .int .i64 0, .bool false, .int .i64 0, .bool false, .int .i64 0, .bool false, .int .i64 0, .bool false, .bool false]) /\ i.size = 17 /\ i.bytes = 136 := by
 have h : (Tryz.prog.info? 131).map (fun i => (i.zero, i.size, i.bytes)) = some (some (.agg #[.int .i64 0, .bool false, .int .i64 0, .bool false, .int .i64 0, .bool false, .int .i64 0, .bool false, .int .i64 0, .bool false, .int .i64 0, .bool false, .int .i64 0, .bool false, .int .i64 0, .bool false, .bool false]), 17, 136) := by kernel_rfl
 obtain ⟨i, h1, h2⟩ := Option.map_eq_some_iff.1 h;simp only [Prod.mk.injEq] at h2;exact ⟨i, h1, h2.1, h2.2.1, h2.2.2⟩
theorem Jau (cl : Nat) (h : cl <= 200) (w : World) : (Instr.makeSlice 106 (.int .i64 (cl : Int)) (.int .i64 (cl : Int))).run Tryz.prog w = .ok (.slice (some ⟨w.heap.size, 0, none⟩) cl cl) (w.alloc (.cells (madeCells #[.int .i64 0, .bool false, .int .i64 0, .bool false, .int .i64 0, .bool false, .int .i64 0, .bool false, .int .i64 0, .bool false, .int .i64 0, .bool false, .int .i64 0, .bool false, .int .i64 0, .bool false, .bool false] (cl * 17)) 131)) := by
 obtain ⟨i, h1, h2, h3, h4⟩ := Jgi;have := run_make (P := Tryz.prog) w 106 131 i (.agg #[.int .i64 0, .bool false, .int .i64 0, .bool false, .int .i64 0, .bool false, .int .i64 0, .bool false, .int .i64 0, .bool false, .int .i64 0, .bool false, .int .i64 0, .bool false, .int .i64 0, .bool false, .bool false]) Tryz.underlying106 h1 h2 .i64 .i64 cl cl (by omega) (Int.le_refl _) (by rw [h4]; omega) (by omega);rw [h3] at this;simp only [Int.toNat_natCast] at this;exact this
theorem Jjb : (Tryz.prog.info? 108).map (·.size) = some 4 := by kernel_rfl

structure ChB (w1 : World) (cl gM gB : Nat) (w' : World) : Prop where
 bM : Blk w' gM #[.slice none 0 0, .slice none 0 0, .slice none 0 0, .slice none 0 0] 108
 bB : Blk w' gB (madeCells #[.int .i64 0, .bool false, .int .i64 0, .bool false, .int .i64 0, .bool false, .int .i64 0, .bool false, .int .i64 0, .bool false, .int .i64 0, .bool false, .int .i64 0, .bool false, .int .i64 0, .bool false, .bool false] (cl * 17)) 131
 up : More w1 w'
 ltM : w1.heap.size <= gM
 ltB : w1.heap.size <= gB
 ne : gM ≠ gB

theorem Jc9 (p : Prg) (lo : Loc) (w : World) (hp : PIn w p lo) (hno : ¬ p.Ok 200 8) :
  Calls Tryz.prog 36 #[.agg #[.slice lo.ra p.rl lo.rc, .slice lo.ca p.cl lo.cc]] w fun e w' => e = .returned (.agg #[.int .i64 2, .int .i64 0]) /\ More w w' := by
 have cm : Calls Tryz.prog 54 #[.agg #[.slice lo.ra p.rl lo.rc, .slice lo.ca p.cl lo.cc]] ((w.alloc (.cells #[.slice lo.ra p.rl lo.rc, .slice lo.ca p.cl lo.cc] 25)).alloc (.cells #[.int .i64 0, .int .i64 0] 30)) fun e w' => e = .returned (.bool false) /\ More ((w.alloc (.cells #[.slice lo.ra p.rl lo.rc, .slice lo.ca p.cl lo.cc] 25)).alloc (.cells #[.int .i64 0, .int .i64 0] 30)) w' := by
  refine (J96 p lo _ (hp.more (((More.refl _).alloc _ _).alloc _ _))).mono ?_;rintro e w' ⟨r, rfl, hr, m⟩;cases r with
  | false => exact ⟨rfl, m⟩
  | true => exact absurd (hr.1 rfl) hno
 clear hp hno;go_enter Tryz.func36, Tryz.ntmps36;go_wp2_with (fail)
 refine cm.mono ?_;rintro e w1 ⟨rfl, m1⟩;have HR : Hid (Blk w1 (w.heap.size + 1) #[.int .i64 0, .int .i64 0] 30 /\ More w w1) := ⟨(by simpa using Blk.last (w.alloc (.cells #[.slice lo.ra p.rl lo.rc, .slice lo.ca p.cl lo.cc] 25)) #[.int .i64 0, .int .i64 0] 30 : Blk _ (w.heap.size + 1) _ _).more m1, (((More.refl _).alloc _ _).alloc _ _).trans m1⟩;have t0 := HR.out.1.cell (j := 0) rfl;have t1 := HR.out.1.cell (j := 1) rfl;have u0 := HR.out.1.frozen 0;have u1 := HR.out.1.frozen 1;clear m1 cm;go_wp2;refine bodyPost_ret (by simp [results, Tryz.results36, go_sem, *]) rfl ⟨rfl, ?_⟩;exact (HR.out.2.setCell (by dsimp only; omega) _).setCell (by dsimp only; omega) _

theorem J7e (p : Prg) (lo : Loc) (w : World) (hp : PIn w p lo) (hok : p.Ok 200 8) (hnr : ∀ i, i < p.cl -> -9223372036854775808 <= (p.ins i).n /\ (p.ins i).n <= 9223372036854775807) :
  Calls Tryz.prog 36 #[.agg #[.slice lo.ra p.rl lo.rc, .slice lo.ca p.cl lo.cc]] w fun e w' => ∃ l, Known p l /\ e = .returned (.agg #[.int .i64 (J0e p l).1, .int .i64 (J0e p l).2]) /\ More w w' := by
 suffices hP : ∀ P : Ending -> World -> Prop, (∀ l, Known p l -> ∀ w', More w w' -> P (.returned (.agg #[.int .i64 (J0e p l).1, .int .i64 (J0e p l).2])) w') -> Calls Tryz.prog 36 #[.agg #[.slice lo.ra p.rl lo.rc, .slice lo.ca p.cl lo.cc]] w P from hP _ (fun l h1 w' h2 => ⟨l, h1, rfl, h2⟩)
 intro P hP0;have HP : Hid (∀ l, Known p l -> ∀ w', More w w' -> P (.returned (.agg #[.int .i64 (J0e p l).1, .int .i64 (J0e p l).2])) w') := hP0;clear hP0;have H : Hid (PIn w p lo /\ p.Ok 200 8 /\ ∀ i, i < p.cl -> -9223372036854775808 <= (p.ins i).n /\ (p.ins i).n <= 9223372036854775807) := ⟨hp, hok, hnr⟩
 have cm : Calls Tryz.prog 54 #[.agg #[.slice lo.ra p.rl lo.rc, .slice lo.ca p.cl lo.cc]] ((w.alloc (.cells #[.slice lo.ra p.rl lo.rc, .slice lo.ca p.cl lo.cc] 25)).alloc (.cells #[.int .i64 0, .int .i64 0] 30)) fun e w' => e = .returned (.bool true) /\ More ((w.alloc (.cells #[.slice lo.ra p.rl lo.rc, .slice lo.ca p.cl lo.cc] 25)).alloc (.cells #[.int .i64 0, .int .i64 0] 30)) w' := by
  refine (J96 p lo _ (hp.more (((More.refl _).alloc _ _).alloc _ _))).mono ?_;rintro e w' ⟨r, rfl, hr, m⟩;cases r with
  | true => exact ⟨rfl, m⟩
  | false => exact absurd (hr.2 hok) (by simp)
 have hcl : p.cl <= 200 := hok.2.2.1;clear hp hok hnr;obtain ⟨cl, Hcl⟩ : ∃ x, Hid (p.cl = x) := ⟨_, rfl⟩;rw [Hcl.out] at hcl cm |-;have hi2 : ((cl : Int) <= 200) := by omega
 have hmk := Jau cl hcl;obtain ⟨Zs, hZs⟩ : ∃ x, madeCells #[.int .i64 0, .bool false, .int .i64 0, .bool false, .int .i64 0, .bool false, .int .i64 0, .bool false, .int .i64 0, .bool false, .int .i64 0, .bool false, .int .i64 0, .bool false, .int .i64 0, .bool false, .bool false] (cl * 17) = x := ⟨_, rfl⟩;have HZs : Hid (madeCells #[.int .i64 0, .bool false, .int .i64 0, .bool false, .int .i64 0, .bool false, .int .i64 0, .bool false, .int .i64 0, .bool false, .int .i64 0, .bool false, .int .i64 0, .bool false, .int .i64 0, .bool false, .bool false] (cl * 17) = Zs) := hZs;rw [hZs] at hmk;clear hZs;obtain ⟨ra, Hra⟩ : ∃ x, Hid (lo.ra = x) := ⟨_, rfl⟩;obtain ⟨rl, Hrl⟩ : ∃ x, Hid (p.rl = x) := ⟨_, rfl⟩;obtain ⟨rc, Hrc⟩ : ∃ x, Hid (lo.rc = x) := ⟨_, rfl⟩;obtain ⟨ca, Hca⟩ : ∃ x, Hid (lo.ca = x) := ⟨_, rfl⟩;obtain ⟨cc, Hcc⟩ : ∃ x, Hid (lo.cc = x) := ⟨_, rfl⟩;rw [Hra.out, Hrl.out, Hrc.out, Hca.out, Hcc.out] at cm |-;go_enter Tryz.func36, Tryz.ntmps36;go_wp2_with (fail)
 refine cm.mono ?_;rintro e w1 ⟨rfl, m1⟩;have HR : Hid (Blk w1 w.heap.size #[.slice ra rl rc, .slice ca cl cc] 25 /\ Blk w1 (w.heap.size + 1) #[.int .i64 0, .int .i64 0] 30 /\ More w w1) := ⟨((Blk.last _ _ _).alloc _ _).more m1, (by simpa using Blk.last (w.alloc (.cells #[.slice ra rl rc, .slice ca cl cc] 25)) #[.int .i64 0, .int .i64 0] 30 : Blk _ (w.heap.size + 1) _ _).more m1, (((More.refl _).alloc _ _).alloc _ _).trans m1⟩;have Hpin : Hid (PIn w1 p lo) := H.out.1.more HR.out.2.2;clear m1 cm;obtain ⟨S, HS⟩ : ∃ S : World -> Prop, Hid (∀ w', S w' ↔ More w1 w') := ⟨_, fun _ => Iff.rfl⟩;have HS0 : S w1.drew := (HS.out _).2 (More.refl _).drew;have hne : Nonempty { w' // S w' } := ⟨⟨_, HS0⟩⟩;have k0 : ∀ i : { w' // S w' }, i.val.cell? ⟨w.heap.size, 0, none⟩ = some (.slice ra rl rc) := fun i => (HR.out.1.more ((HS.out _).1 i.property)).cell rfl
 have k1 : ∀ i : { w' // S w' }, i.val.cell? ⟨w.heap.size, 1, none⟩ = some (.slice ca cl cc) := fun i => (HR.out.1.more ((HS.out _).1 i.property)).cell rfl
 go_wp2_with (fail)
 refine J1i (S := S) (by kernel_rfl) HS0 ?_;refine J07 0 rfl (by kernel_rfl) HS0 (by kernel_rfl) (fun K hK => ?_); go_simp; refine hK _ _ ?_; clear hK K;refine J07 1 rfl (by kernel_rfl) HS0 (by kernel_rfl) (fun K hK => ?_); go_simp; refine hK _ _ ?_; clear hK K;refine J07 2 rfl (by kernel_rfl) HS0 (by kernel_rfl) (fun K hK => ?_); go_simp; refine hK _ _ ?_; clear hK K;refine J07 3 rfl (by kernel_rfl) HS0 (by kernel_rfl) (fun K hK => ?_); go_simp; refine hK _ _ ?_; clear hK K;obtain ⟨wd, Hwd⟩ : ∃ wd : World, Hid (wd = w1.drew) := ⟨_, rfl⟩;have Hmwd : Hid (More w1 wd) := Hwd.out ▸ (More.refl w1).drew;rw [<- Hwd.out];clear k0 k1;apply Jbc
 ·intro key
  refine J3o 4 6 (by kernel_rfl) ?_ ?_
  ·refine J08 rfl (by kernel_rfl) (fun K hK => ?_); go_simp
   obtain ⟨w2, Hw2⟩ : ∃ w_ : World, Hid (w_ = wd.alloc (.cells Zs 131)) := ⟨_, rfl⟩;have m2 : More wd w2 := Hw2.out ▸ (More.refl _).alloc _ _;have Hm2 : Hid (More w1 w2) := Hmwd.out.trans m2;have Hb2 : Hid (Blk w2 wd.heap.size Zs 131) := Hw2.out ▸ Blk.last _ _ _;rw [<- Hw2.out];clear m2 Hw2;have HS2 : S w2 := (HS.out _).2 Hm2.out;refine hK _ _ HS2 ?_; clear hK K;refine J07 5 rfl (by kernel_rfl) HS2 (by kernel_rfl) (fun K hK => ?_); go_simp; refine hK _ _ ?_; clear hK K;refine J12 6 (by kernel_rfl) ?_;refine J08 rfl (by kernel_rfl) (fun K hK => ?_); go_simp;obtain ⟨w3, Hw3⟩ : ∃ w_ : World, Hid (w_ = w2.alloc (.cells #[.slice none 0 0, .slice none 0 0, .slice none 0 0, .slice none 0 0] 108)) := ⟨_, rfl⟩;have m3 : More w2 w3 := Hw3.out ▸ (More.refl _).alloc _ _;have Hm3 : Hid (More w1 w3) := Hm2.out.trans m3;have Hb3 : Hid (Blk w3 w2.heap.size #[.slice none 0 0, .slice none 0 0, .slice none 0 0, .slice none 0 0] 108) := Hw3.out ▸ Blk.last _ _ _;have F : Hid (ChB w1 cl w2.heap.size wd.heap.size w3) := ⟨Hb3.out, HZs.out ▸ Hb2.out.more m3, Hm3.out, Hm2.out.size, Hmwd.out.size, Nat.ne_of_gt Hb2.out.lt⟩;rw [<- Hw3.out];clear m3 Hw3;refine hK _ _ ((HS.out _).2 Hm3.out) ?_; clear hK K;refine J1k (listed' := #[true, true, true, true, true, true, true, false]) (by kernel_rfl) ?_;clear Hb2 Hm2 HS2 Hm3 Hb3;generalize w2.heap.size = gM at F |-;generalize wd.heap.size = gB at F |-;clear w2
   revert w3 gM gB
   exact key
  ·refine J08 rfl (by kernel_rfl) (fun K hK => ?_); go_simp
   obtain ⟨w2, Hw2⟩ : ∃ w_ : World, Hid (w_ = wd.alloc (.cells #[.slice none 0 0, .slice none 0 0, .slice none 0 0, .slice none 0 0] 108)) := ⟨_, rfl⟩;have m2 : More wd w2 := Hw2.out ▸ (More.refl _).alloc _ _;have Hm2 : Hid (More w1 w2) := Hmwd.out.trans m2;have Hb2 : Hid (Blk w2 wd.heap.size #[.slice none 0 0, .slice none 0 0, .slice none 0 0, .slice none 0 0] 108) := Hw2.out ▸ Blk.last _ _ _;rw [<- Hw2.out];clear m2 Hw2;refine hK _ _ ((HS.out _).2 Hm2.out) ?_; clear hK K;refine J12 4 (by kernel_rfl) ?_;refine J08 rfl (by kernel_rfl) (fun K hK => ?_); go_simp;obtain ⟨w3, Hw3⟩ : ∃ w_ : World, Hid (w_ = w2.alloc (.cells Zs 131)) := ⟨_, rfl⟩;have m3 : More w2 w3 := Hw3.out ▸ (More.refl _).alloc _ _;have Hm3 : Hid (More w1 w3) := Hm2.out.trans m3;have Hb3 : Hid (Blk w3 w2.heap.size Zs 131) := Hw3.out ▸ Blk.last _ _ _;have F : Hid (ChB w1 cl wd.heap.size w2.heap.size w3) := ⟨Hb2.out.more m3, HZs.out ▸ Hb3.out, Hm3.out, Hmwd.out.size, Hm2.out.size, Nat.ne_of_lt Hb2.out.lt⟩;rw [<- Hw3.out];clear m3 Hw3;have HS3 : S w3 := (HS.out _).2 Hm3.out;refine hK _ _ HS3 ?_; clear hK K;refine J07 5 rfl (by kernel_rfl) HS3 (by kernel_rfl) (fun K hK => ?_); go_simp; refine hK _ _ ?_; clear hK K;refine J1k (listed' := #[true, true, true, true, true, true, true, false]) (by kernel_rfl) ?_;exact key _ _ _ F
 ·intro w3 gM gB F
  obtain ⟨w4, Hw4⟩ : ∃ w_ : World, Hid (w_ = w3.setRow gM #[.slice ra rl rc, .slice ca cl cc, .slice (some ⟨gB, 0, none⟩) cl cl, .slice none 0 0]) := ⟨_, rfl⟩
  have Hck : Hid (Ck w1 p lo gM gB (fun _ => none) [] (.slice none 0 0) w4) := by
   rw [Hw4.out];refine ⟨?_, World.ownsRow_nil _ _ _ _, ?_, F.out.up.setRow F.out.ltM _, Hpin.out, ⟨F.out.ltM, F.out.ltB⟩⟩
   ·rw [Hra.out, Hrl.out, Hrc.out, Hca.out, Hcc.out, Hcl.out]
    exact F.out.bM.setRow _
   ·rw [Hcl.out]
    exact Jah cl gB _ (F.out.bB.setRow_other F.out.ne.symm _)
  refine J12 7 (by kernel_rfl) ?_;refine J08 rfl (by kernel_rfl) (fun K hK => ?_);refine wp_store_row 108 (.tmp 3) (.tmp 13) rfl gM #[.slice ra rl rc, .slice ca cl cc, .slice (some ⟨gB, 0, none⟩) cl cl, .slice none 0 0] rfl rfl 108 _ F.out.bM Jjb rfl (by simp [Value.oneCell']) ?_;rw [<- Hw4.out];refine hK _ _ ((HS.out _).2 Hck.out.up) ?_; clear hK K;refine J42 (by kernel_rfl) ?_;clear hne HS0;have c1 := Jaf Hck.out H.out.2.1 H.out.2.2;go_wp2_with (fail)
  refine c1.mono ?_;rintro e w5 ⟨rfl, kp5, l, tv, hk5, ck5⟩;have Hck5 : Hid (Ck w1 p lo gM gB l [] tv w5 /\ Known p l) := ⟨ck5, hk5⟩;have c2 : Calls Tryz.prog 56 #[.pointer (some ⟨gM, 0, none⟩)] w5 fun e w' => e = .returned (.agg #[.int .i64 (J0e p l).1, .int .i64 (J0e p l).2]) /\ More w5 w' := Ja8 ck5 H.out.2.1 H.out.2.2 (by simp)
  clear kp5 hk5 ck5 c1;have HP2 : Hid (∀ w', More w w' -> P (.returned (.agg #[.int .i64 (J0e p l).1, .int .i64 (J0e p l).2])) w') := HP.out l Hck5.out.2;obtain ⟨f, hf⟩ : ∃ x, J0e p l = x := ⟨_, rfl⟩;rw [hf] at c2 HP2;clear hf HP;obtain ⟨f1, f2⟩ := f;dsimp only at c2 HP2;go_wp2_with (fail)
  refine c2.mono ?_;rintro e w6 ⟨rfl, m6⟩;have HR6 : Hid (Blk w6 (w.heap.size + 1) #[.int .i64 0, .int .i64 0] 30 /\ More w w6) := ⟨HR.out.2.1.more (Hck5.out.1.up.trans m6), HR.out.2.2.trans (Hck5.out.1.up.trans m6)⟩;have t0 := HR6.out.1.cell (j := 0) rfl;have t1 := HR6.out.1.cell (j := 1) rfl;have u0 := HR6.out.1.frozen 0;have u1 := HR6.out.1.frozen 1;clear m6 c2;go_wp2;refine bodyPost_ret (v := .agg #[.int .i64 f1, .int .i64 f2]) (by simp [results, Tryz.results36, go_sem, *]) rfl (HP2.out _ ?_);exact (HR6.out.2.setCell (by dsimp only; omega) _).setCell (by dsimp only; omega) _
end
section
open Go.RowKit
def tri (x y z : Int) (j : Nat) : Int := if j = 0 then x else if j = 1 then y else z
theorem J0n {w : World} {g : Nat} {x y z : Int} (h0 : w.cell? ⟨g, 0, none⟩ = some (.int .i64 x)) (h1 : w.cell? ⟨g, 1, none⟩ = some (.int .i64 y)) (h2 : w.cell? ⟨g, 2, none⟩ = some (.int .i64 z)) :
  ∀ j, j < 3 -> w.cell? ⟨g, j, none⟩ = some (.int .i64 (tri x y z j)) := by
 intro j hj;have : j = 0 \/ j = 1 \/ j = 2 := by omega
 rcases this with rfl | rfl | rfl
 ·exact h0
 ·exact h1
 ·exact h2

def Shape (x y z : Int) (num : Bool) (w : World) (e : Ending) (w' : World) : Prop :=
 ∃ g : Nat, e = .returned (.tuple #[.slice (some ⟨g, 0, none⟩) 3 3, .bool num, .bool true]) /\ (∀ j, j < 3 -> w'.cell? ⟨g, j, none⟩ = some (.int .i64 (tri x y z j))) /\ More w w'

theorem Jkc (w : World) : Calls Tryz.prog 66 #[.int .i64 1] w (Shape 1 0 0 true w) := by
 go_enter Tryz.func66, Tryz.ntmps66;go_wp2;go_ret3;exact ⟨w.heap.size, rfl, J0n (by go_simp) (by go_simp) (by go_simp), (More.refl _).alloc _ _⟩

theorem Jkd (w : World) : Calls Tryz.prog 66 #[.int .i64 2] w (Shape 1 1 0 false w) := by
 go_enter Tryz.func66, Tryz.ntmps66;go_wp2;go_ret3;exact ⟨w.heap.size, rfl, J0n (by go_simp) (by go_simp) (by go_simp), (More.refl _).alloc _ _⟩

theorem Jke (w : World) : Calls Tryz.prog 66 #[.int .i64 3] w (Shape 1 1 2 true w) := by
 go_enter Tryz.func66, Tryz.ntmps66;go_wp2;go_ret3;exact ⟨w.heap.size, rfl, J0n (by go_simp) (by go_simp) (by go_simp), (More.refl _).alloc _ _⟩

theorem Jkf (w : World) : Calls Tryz.prog 66 #[.int .i64 4] w (Shape 1 1 2 true w) := by
 go_enter Tryz.func66, Tryz.ntmps66;go_wp2;go_ret3;exact ⟨w.heap.size, rfl, J0n (by go_simp) (by go_simp) (by go_simp), (More.refl _).alloc _ _⟩

theorem Jkg (w : World) : Calls Tryz.prog 66 #[.int .i64 5] w (Shape 1 0 2 true w) := by
 go_enter Tryz.func66, Tryz.ntmps66;go_wp2;go_ret3;exact ⟨w.heap.size, rfl, J0n (by go_simp) (by go_simp) (by go_simp), (More.refl _).alloc _ _⟩

theorem Jkh (w : World) : Calls Tryz.prog 66 #[.int .i64 6] w (Shape 1 0 2 true w) := by
 go_enter Tryz.func66, Tryz.ntmps66;go_wp2;go_ret3;exact ⟨w.heap.size, rfl, J0n (by go_simp) (by go_simp) (by go_simp), (More.refl _).alloc _ _⟩

theorem Jki (w : World) : Calls Tryz.prog 66 #[.int .i64 7] w (Shape 0 0 0 true w) := by
 go_enter Tryz.func66, Tryz.ntmps66;go_wp2;go_ret3;exact ⟨w.heap.size, rfl, J0n (by go_simp) (by go_simp) (by go_simp), (More.refl _).alloc _ _⟩

theorem Jkj (w : World) : Calls Tryz.prog 66 #[.int .i64 8] w (Shape 1 1 2 true w) := by
 go_enter Tryz.func66, Tryz.ntmps66;go_wp2;go_ret3;exact ⟨w.heap.size, rfl, J0n (by go_simp) (by go_simp) (by go_simp), (More.refl _).alloc _ _⟩

theorem Jkk (w : World) : Calls Tryz.prog 66 #[.int .i64 9] w (Shape 1 0 0 false w) := by
 go_enter Tryz.func66, Tryz.ntmps66;go_wp2;go_ret3;exact ⟨w.heap.size, rfl, J0n (by go_simp) (by go_simp) (by go_simp), (More.refl _).alloc _ _⟩

theorem Ji3 (w : World) : Calls Tryz.prog 66 #[.int .i64 10] w (Shape 1 1 0 true w) := by
 go_enter Tryz.func66, Tryz.ntmps66;go_wp2;go_ret3;exact ⟨w.heap.size, rfl, J0n (by go_simp) (by go_simp) (by go_simp), (More.refl _).alloc _ _⟩

theorem Ji4 (w : World) : Calls Tryz.prog 66 #[.int .i64 11] w (Shape 1 0 0 true w) := by
 go_enter Tryz.func66, Tryz.ntmps66;go_wp2;go_ret3;exact ⟨w.heap.size, rfl, J0n (by go_simp) (by go_simp) (by go_simp), (More.refl _).alloc _ _⟩

theorem Ji5 (w : World) : Calls Tryz.prog 66 #[.int .i64 12] w (Shape 0 0 0 false w) := by
 go_enter Tryz.func66, Tryz.ntmps66;go_wp2;go_ret3;exact ⟨w.heap.size, rfl, J0n (by go_simp) (by go_simp) (by go_simp), (More.refl _).alloc _ _⟩

theorem Ji6 (op : Int) (h1 : 20 < op) (h2 : op <= 30) (w : World) : Calls Tryz.prog 66 #[.int .i64 op] w (Shape 1 1 1 false w) := by
 go_enter Tryz.func66, Tryz.ntmps66;go_wp2;go_ret3;exact ⟨w.heap.size, rfl, J0n (by go_simp) (by go_simp) (by go_simp), (More.refl _).alloc _ _⟩

theorem Jd5 (op : Int) (h1 : ¬ op = 1) (h2 : ¬ op = 2) (h3 : ¬ op = 3) (h4 : ¬ op = 4) (h5 : ¬ op = 5) (h6 : ¬ op = 6) (h7 : ¬ op = 7) (h8 : ¬ op = 8) (h9 : ¬ op = 9) (h10 : ¬ op = 10) (h11 : ¬ op = 11) (h12 : ¬ op = 12) (h : ¬ (20 < op /\ op <= 30)) (w : World) : Calls Tryz.prog 66 #[.int .i64 op] w fun e w' => e = .returned (.tuple #[.slice none 0 0, .bool false, .bool false]) /\ w' = w := by
 by_cases h20 : 20 < op
 ·have h30 : ¬ op <= 30 := fun k => h ⟨h20, k⟩
  clear h;go_enter Tryz.func66, Tryz.ntmps66;go_wp2;go_ret3;exact ⟨rfl, rfl⟩
 ·clear h
  go_enter Tryz.func66, Tryz.ntmps66;go_wp2;go_ret3;exact ⟨rfl, rfl⟩

theorem J73 (ra : Option Addr) (rl rc : Nat) (ca : Option Addr) (cl cc : Nat) (b o : Nat) (log : Nat -> Int) (sec : Nat -> Bool) (w : World)
  (hra : 0 < rl -> ra = some ⟨b, o, none⟩) (hr : RegsAt w b o rl log sec) :
  Calls Tryz.prog 17 #[.agg #[.slice ra rl rc, .slice ca cl cc]] w (Says (J0g rl log) w) := by
 by_cases h6 : 6 < rl
 ·have Hr : Hid (RegsAt w b o rl log sec) := hr
  clear hr;have h6' : (6 : Int) < (rl : Int) := by omega
  go_enter Tryz.func17, Tryz.ntmps17;go_wp2;go_ret;exact Says.no (fun h => by have := h.1; omega) ((More.refl _).alloc _ _)
 ·have h6' : ¬ (6 : Int) < (rl : Int) := by omega
  have Hr : Hid (RegsAt w b o rl log sec) := hr;have Ha : Hid (0 < rl -> ra = some ⟨b, o, none⟩) := hra;clear hr hra;go_enter Tryz.func17, Tryz.ntmps17;go_wp2;go_loopg [3] rl (fun g i wr => ∃ k : Nat, k + g = rl /\ i = .int .i64 k /\ (∀ j, j < k -> 0 <= log j /\ log j <= 6) /\ wr = w.alloc (.cells #[.slice ra rl rc, .slice ca cl cc] 25))
  case atStart => exact ⟨0, by omega, rfl, fun j hj => by omega, rfl⟩
  case round =>
   obtain ⟨k, hkg, rfl, hok, rfl⟩ := hrel;have Hok : Hid (∀ j, j < k -> 0 <= log j /\ log j <= 6) := hok;clear hok;cases gk with
   | zero =>
    obtain rfl : k = rl := by omega
    go_wp2;go_ret;exact Says.yes ⟨by omega, Hok.out⟩ ((More.refl _).alloc _ _)
   | succ g =>
    have hk : k < rl := by omega
    have hk' : (k : Int) < (rl : Int) := by omega
    obtain rfl := Ha.out (by omega);have hc0 := ((Hr.out.more ((More.refl _).alloc #[.slice (some ⟨b, o, none⟩) rl rc, .slice ca cl cc] 25)) k hk).1;by_cases hlo : log k < 0
    ·go_wp2
     go_ret;exact Says.no (fun h => by have := (h.2 k hk).1; omega) ((More.refl _).alloc _ _)
    ·by_cases hhi : 6 < log k
     ·go_wp2
      go_ret;exact Says.no (fun h => by have := (h.2 k hk).2; omega) ((More.refl _).alloc _ _)
     ·go_wp2
      go_roundg g
      case measure => omega
      case rel =>
       refine ⟨k + 1, by omega, by first | rfl | simp, fun j hj => ?_, rfl⟩;by_cases e : j = k
       ·subst e; omega
       ·exact Hok.out j (by omega)

theorem J3a (l : Int) (h0 : 0 <= l) (h1 : l <= 6) (s : Bool) (w : World) :
  Calls Tryz.prog 18 #[.agg #[.int .i64 l, .bool s]] w fun e w' => e = .returned (.int .i64 (J0c l)) /\ More w w' := by
 obtain ⟨n, rfl⟩ : ∃ n : Nat, l = n := ⟨l.toNat, by omega⟩;have hn : n <= 6 := by omega
 clear h0 h1;obtain ⟨R, HR⟩ : ∃ R, Hid (J0c (n : Int) = R) := ⟨_, rfl⟩;rw [HR.out];go_enter Tryz.func18, Tryz.ntmps18;go_wp2;go_loopg [3, 4] n (fun g nv i wr => ∃ (k : Nat) (m : Int), k + g = n /\ m = 2 ^ k /\ nv = .int .i64 m /\ i = .int .i64 k /\ wr = w.alloc (.cells #[.int .i64 n, .bool s] 62))
 case atStart => exact ⟨0, 1, by omega, by decide, rfl, rfl, rfl⟩
 case round =>
  obtain ⟨k, m, hkg, hm, rfl, rfl, rfl⟩ := hrel;have hb := J1b (k := k) (by omega);rw [<- hm] at hb;have Hm : Hid (m = 2 ^ k) := hm;clear hm;obtain ⟨b0, b1⟩ := hb;cases gk with
  | zero =>
   obtain rfl : k = n := by omega
   go_wp2;go_ret;refine ⟨?_, (More.refl _).alloc _ _⟩;rw [Hm.out, <- HR.out];simp [J0c]
  | succ g =>
   have hk' : (k : Int) < (n : Int) := by omega
   go_wp2;go_roundg g
   case measure => omega
   case rel =>
    refine ⟨k + 1, m + m, by omega, by rw [Int.pow_succ, <- Hm.out]; omega, ?_, by first | rfl | simp, rfl⟩
    first | rfl | (simp; unfold wrap64; omega)
def Fld (regs l f : Int) : Prop := (l = 0 -> f = 0) /\ (l = 1 -> Reg regs f)

theorem J36 {w w1 : World} {x0 x1 y0 y1 y2 y3 y4 : Value} {t u : TypeId} (m : More ((w.alloc (.cells #[x0, x1] t)).alloc (.cells #[y0, y1, y2, y3, y4] u)) w1) :
  (w1.cell? ⟨w.heap.size, 0, none⟩ = some x0 /\ w1.cell? ⟨w.heap.size, 1, none⟩ = some x1) /\
  w1.cell? ⟨w.heap.size + 1, 0, none⟩ = some y0 /\ w1.cell? ⟨w.heap.size + 1, 1, none⟩ = some y1 /\ w1.cell? ⟨w.heap.size + 1, 2, none⟩ = some y2 /\ w1.cell? ⟨w.heap.size + 1, 3, none⟩ = some y3 /\ w1.cell? ⟨w.heap.size + 1, 4, none⟩ = some y4 := by
 refine ⟨⟨m.cell (by go_simp), m.cell (by go_simp)⟩, m.cell (by go_simp), m.cell (by go_simp), m.cell (by go_simp), m.cell (by go_simp), m.cell (by go_simp)⟩
set_option maxRecDepth 8000 in
theorem ins_1 (ra : Option Addr) (rl rc : Nat) (ca : Option Addr) (cl cc : Nat) (a b c n regs : Int) (w : World) (P : Prop) (HP : Hid (P ↔ (True /\ (∀ j, j < 3 -> Fld regs (tri 1 0 0 j) (tri a b c j)) /\ True))) :
  Calls Tryz.prog 49 #[.agg #[.slice ra rl rc, .slice ca cl cc], .agg #[.int .i64 1, .int .i64 a, .int .i64 b, .int .i64 c, .int .i64 n], .int .i64 regs] w (Says P w) := by
 go_enter Tryz.func49, Tryz.ntmps49;go_wp2_with (fail)
 refine (Jkc _).mono ?_;rintro e w1 ⟨g, rfl, hg, m1⟩;obtain ⟨⟨c0, c1⟩, d0, d1, d2, d3, d4⟩ := J36 m1;have Hg : Hid (∀ j, j < 3 -> w1.cell? ⟨g, j, none⟩ = some (.int .i64 (tri 1 0 0 j))) := hg;have Hm1 : Hid (More w w1) := (((More.refl _).alloc _ _).alloc _ _).trans m1;clear hg m1;have HN : Hid True := trivial;go_wp2;obtain ⟨W, HW⟩ : ∃ W : World, Hid (W = w1.alloc (.cells #[.int .i64 a, .int .i64 b, .int .i64 c] 3)) := ⟨_, rfl⟩;have Hm1W : Hid (More w1 W) := HW.out ▸ (More.refl _).alloc _ _;have Hm : Hid (More w W) := Hm1.out.trans Hm1W.out;have Hf : Hid (∀ j, j < 3 -> W.cell? ⟨w1.heap.size, j, none⟩ = some (.int .i64 (tri a b c j))) := by rw [HW.out]; exact J0n (by go_simp) (by go_simp) (by go_simp)
 have Hg' : Hid (∀ j, j < 3 -> W.cell? ⟨g, j, none⟩ = some (.int .i64 (tri 1 0 0 j))) := fun j hj => Hm1W.out.cell (Hg.out j hj)
 clear Hg;replace c0 := Hm1W.out.cell c0;replace c1 := Hm1W.out.cell c1;replace d0 := Hm1W.out.cell d0;replace d1 := Hm1W.out.cell d1;replace d2 := Hm1W.out.cell d2;replace d3 := Hm1W.out.cell d3;replace d4 := Hm1W.out.cell d4;go_loopg [11] 3 (fun q i wr => ∃ k : Nat, k + q = 3 /\ i = .int .i64 k /\ (∀ j, j < k -> Fld regs (tri 1 0 0 j) (tri a b c j)) /\ wr = W)
 case atStart => exact ⟨0, by omega, rfl, fun j hj => by omega, HW.out.symm⟩
 case round =>
  obtain ⟨k, hkg, rfl, hok, rfl⟩ := hrel;have Hok : Hid (∀ j, j < k -> Fld regs (tri 1 0 0 j) (tri a b c j)) := hok;clear hok;cases gk with
  | zero =>
   obtain rfl : k = 3 := by omega
   go_wp2;go_ret;exact Says.yes (HP.out.2 ⟨HN.out, Hok.out, trivial⟩) Hm.out
  | succ q =>
   clear d0 d1 d2 d3 d4 c0 c1;have hk : k < 3 := by omega
   have hk' : (k : Int) < 3 := by omega
   have hk0 : (0 : Int) <= (k : Int) := by omega
   have qg := Hg'.out k hk;have qf := Hf.out k hk;obtain ⟨x, hx⟩ : ∃ x, tri 1 0 0 k = x := ⟨_, rfl⟩;obtain ⟨y, hy⟩ : ∃ y, tri a b c k = y := ⟨_, rfl⟩;rw [hx] at qg;rw [hy] at qf;have HX : Hid (tri 1 0 0 k = x /\ tri a b c k = y) := ⟨hx, hy⟩;clear hx hy
   have step : Hid (Fld regs x y -> ∀ j, j < k + 1 -> Fld regs (tri 1 0 0 j) (tri a b c j)) := by
    intro h j hj;by_cases e : j = k
    ·subst e; rw [HX.out.1, HX.out.2]; exact h
    ·exact Hok.out j (by omega)
   have back : Hid ((∀ j, j < 3 -> Fld regs (tri 1 0 0 j) (tri a b c j)) -> Fld regs x y) := by
    intro h;have := h k hk;rw [HX.out.1, HX.out.2] at this;exact this
   by_cases hx0 : x = 0
   ·subst hx0
    by_cases hy0 : y = 0
    ·subst hy0
     go_wp2;go_roundg q
     case measure => omega
     case rel => exact ⟨k + 1, by omega, by first | rfl | simp, step.out ⟨fun _ => rfl, fun h => by simp at h⟩, rfl⟩
    ·have hy1 : (y != 0) = true := by simp [hy0]
     have Hy : Hid (¬ y = 0) := hy0;clear hy0;go_wp2;go_ret;exact Says.no (fun h => Hy.out ((back.out (HP.out.1 h).2.1).1 rfl)) Hm.out
   by_cases hx1 : x = 1
   ·subst hx1
    clear hx0;by_cases hy0 : y < 0
    ·have Hy : Hid (y < 0) := hy0
     go_wp2;go_ret;exact Says.no (fun h => by have := ((back.out (HP.out.1 h).2.1).2 rfl).1; have := Hy.out; omega) Hm.out
    by_cases hy1 : regs <= y
    ·have Hy : Hid (regs <= y) := hy1
     go_wp2;go_ret;exact Says.no (fun h => by have := ((back.out (HP.out.1 h).2.1).2 rfl).2; have := Hy.out; omega) Hm.out
    have Hy : Hid (Reg regs y) := ⟨by omega, by omega⟩;go_wp2;go_roundg q
    case measure => omega
    case rel => exact ⟨k + 1, by omega, by first | rfl | simp, step.out ⟨fun h => by simp at h, fun _ => Hy.out⟩, rfl⟩
   have Hx : Hid (¬ x = 0 /\ ¬ x = 1) := ⟨hx0, hx1⟩;have hx2 : (x == 0) = false := by simp [hx0]
   have hx3 : (x == 1) = false := by simp [hx1]
   clear hx0 hx1;go_wp2;go_roundg q
   case measure => omega
   case rel => exact ⟨k + 1, by omega, by first | rfl | simp, step.out ⟨fun h => absurd h Hx.out.1, fun h => absurd h Hx.out.2⟩, rfl⟩

set_option maxRecDepth 8000 in
theorem ins_2 (ra : Option Addr) (rl rc : Nat) (ca : Option Addr) (cl cc : Nat) (a b c n regs : Int) (w : World) (P : Prop) (HP : Hid (P ↔ (n = 0 /\ (∀ j, j < 3 -> Fld regs (tri 1 1 0 j) (tri a b c j)) /\ True))) :
  Calls Tryz.prog 49 #[.agg #[.slice ra rl rc, .slice ca cl cc], .agg #[.int .i64 2, .int .i64 a, .int .i64 b, .int .i64 c, .int .i64 n], .int .i64 regs] w (Says P w) := by
 go_enter Tryz.func49, Tryz.ntmps49;go_wp2_with (fail)
 refine (Jkd _).mono ?_;rintro e w1 ⟨g, rfl, hg, m1⟩;obtain ⟨⟨c0, c1⟩, d0, d1, d2, d3, d4⟩ := J36 m1;have Hg : Hid (∀ j, j < 3 -> w1.cell? ⟨g, j, none⟩ = some (.int .i64 (tri 1 1 0 j))) := hg;have Hm1 : Hid (More w w1) := (((More.refl _).alloc _ _).alloc _ _).trans m1;clear hg m1;by_cases hn0 : n = 0
 rotate_left
 ·have HN : Hid (¬ n = 0) := hn0
  have hn1 : (n != 0) = true := by simp [hn0]
  clear hn0;go_wp2;go_ret;exact Says.no (fun h => HN.out (HP.out.1 h).1) Hm1.out
 have HN : Hid (n = 0) := hn0;have hn1 : (n != 0) = false := by simp [hn0]
 clear hn0;go_wp2;obtain ⟨W, HW⟩ : ∃ W : World, Hid (W = w1.alloc (.cells #[.int .i64 a, .int .i64 b, .int .i64 c] 3)) := ⟨_, rfl⟩;have Hm1W : Hid (More w1 W) := HW.out ▸ (More.refl _).alloc _ _;have Hm : Hid (More w W) := Hm1.out.trans Hm1W.out;have Hf : Hid (∀ j, j < 3 -> W.cell? ⟨w1.heap.size, j, none⟩ = some (.int .i64 (tri a b c j))) := by rw [HW.out]; exact J0n (by go_simp) (by go_simp) (by go_simp)
 have Hg' : Hid (∀ j, j < 3 -> W.cell? ⟨g, j, none⟩ = some (.int .i64 (tri 1 1 0 j))) := fun j hj => Hm1W.out.cell (Hg.out j hj)
 clear Hg;replace c0 := Hm1W.out.cell c0;replace c1 := Hm1W.out.cell c1;replace d0 := Hm1W.out.cell d0;replace d1 := Hm1W.out.cell d1;replace d2 := Hm1W.out.cell d2;replace d3 := Hm1W.out.cell d3;replace d4 := Hm1W.out.cell d4;go_loopg [11] 3 (fun q i wr => ∃ k : Nat, k + q = 3 /\ i = .int .i64 k /\ (∀ j, j < k -> Fld regs (tri 1 1 0 j) (tri a b c j)) /\ wr = W)
 case atStart => exact ⟨0, by omega, rfl, fun j hj => by omega, HW.out.symm⟩
 case round =>
  obtain ⟨k, hkg, rfl, hok, rfl⟩ := hrel;have Hok : Hid (∀ j, j < k -> Fld regs (tri 1 1 0 j) (tri a b c j)) := hok;clear hok;cases gk with
  | zero =>
   obtain rfl : k = 3 := by omega
   go_wp2;go_ret;exact Says.yes (HP.out.2 ⟨HN.out, Hok.out, trivial⟩) Hm.out
  | succ q =>
   clear d0 d1 d2 d3 d4 c0 c1;have hk : k < 3 := by omega
   have hk' : (k : Int) < 3 := by omega
   have hk0 : (0 : Int) <= (k : Int) := by omega
   have qg := Hg'.out k hk;have qf := Hf.out k hk;obtain ⟨x, hx⟩ : ∃ x, tri 1 1 0 k = x := ⟨_, rfl⟩;obtain ⟨y, hy⟩ : ∃ y, tri a b c k = y := ⟨_, rfl⟩;rw [hx] at qg;rw [hy] at qf;have HX : Hid (tri 1 1 0 k = x /\ tri a b c k = y) := ⟨hx, hy⟩;clear hx hy
   have step : Hid (Fld regs x y -> ∀ j, j < k + 1 -> Fld regs (tri 1 1 0 j) (tri a b c j)) := by
    intro h j hj;by_cases e : j = k
    ·subst e; rw [HX.out.1, HX.out.2]; exact h
    ·exact Hok.out j (by omega)
   have back : Hid ((∀ j, j < 3 -> Fld regs (tri 1 1 0 j) (tri a b c j)) -> Fld regs x y) := by
    intro h;have := h k hk;rw [HX.out.1, HX.out.2] at this;exact this
   by_cases hx0 : x = 0
   ·subst hx0
    by_cases hy0 : y = 0
    ·subst hy0
     go_wp2;go_roundg q
     case measure => omega
     case rel => exact ⟨k + 1, by omega, by first | rfl | simp, step.out ⟨fun _ => rfl, fun h => by simp at h⟩, rfl⟩
    ·have hy1 : (y != 0) = true := by simp [hy0]
     have Hy : Hid (¬ y = 0) := hy0;clear hy0;go_wp2;go_ret;exact Says.no (fun h => Hy.out ((back.out (HP.out.1 h).2.1).1 rfl)) Hm.out
   by_cases hx1 : x = 1
   ·subst hx1
    clear hx0;by_cases hy0 : y < 0
    ·have Hy : Hid (y < 0) := hy0
     go_wp2;go_ret;exact Says.no (fun h => by have := ((back.out (HP.out.1 h).2.1).2 rfl).1; have := Hy.out; omega) Hm.out
    by_cases hy1 : regs <= y
    ·have Hy : Hid (regs <= y) := hy1
     go_wp2;go_ret;exact Says.no (fun h => by have := ((back.out (HP.out.1 h).2.1).2 rfl).2; have := Hy.out; omega) Hm.out
    have Hy : Hid (Reg regs y) := ⟨by omega, by omega⟩;go_wp2;go_roundg q
    case measure => omega
    case rel => exact ⟨k + 1, by omega, by first | rfl | simp, step.out ⟨fun h => by simp at h, fun _ => Hy.out⟩, rfl⟩
   have Hx : Hid (¬ x = 0 /\ ¬ x = 1) := ⟨hx0, hx1⟩;have hx2 : (x == 0) = false := by simp [hx0]
   have hx3 : (x == 1) = false := by simp [hx1]
   clear hx0 hx1;go_wp2;go_roundg q
   case measure => omega
   case rel => exact ⟨k + 1, by omega, by first | rfl | simp, step.out ⟨fun h => absurd h Hx.out.1, fun h => absurd h Hx.out.2⟩, rfl⟩

set_option maxRecDepth 8000 in
theorem ins_9 (ra : Option Addr) (rl rc : Nat) (ca : Option Addr) (cl cc : Nat) (a b c n regs : Int) (w : World) (P : Prop) (HP : Hid (P ↔ (n = 0 /\ (∀ j, j < 3 -> Fld regs (tri 1 0 0 j) (tri a b c j)) /\ True))) :
  Calls Tryz.prog 49 #[.agg #[.slice ra rl rc, .slice ca cl cc], .agg #[.int .i64 9, .int .i64 a, .int .i64 b, .int .i64 c, .int .i64 n], .int .i64 regs] w (Says P w) := by
 go_enter Tryz.func49, Tryz.ntmps49;go_wp2_with (fail)
 refine (Jkk _).mono ?_;rintro e w1 ⟨g, rfl, hg, m1⟩;obtain ⟨⟨c0, c1⟩, d0, d1, d2, d3, d4⟩ := J36 m1;have Hg : Hid (∀ j, j < 3 -> w1.cell? ⟨g, j, none⟩ = some (.int .i64 (tri 1 0 0 j))) := hg;have Hm1 : Hid (More w w1) := (((More.refl _).alloc _ _).alloc _ _).trans m1;clear hg m1;by_cases hn0 : n = 0
 rotate_left
 ·have HN : Hid (¬ n = 0) := hn0
  have hn1 : (n != 0) = true := by simp [hn0]
  clear hn0;go_wp2;go_ret;exact Says.no (fun h => HN.out (HP.out.1 h).1) Hm1.out
 have HN : Hid (n = 0) := hn0;have hn1 : (n != 0) = false := by simp [hn0]
 clear hn0;go_wp2;obtain ⟨W, HW⟩ : ∃ W : World, Hid (W = w1.alloc (.cells #[.int .i64 a, .int .i64 b, .int .i64 c] 3)) := ⟨_, rfl⟩;have Hm1W : Hid (More w1 W) := HW.out ▸ (More.refl _).alloc _ _;have Hm : Hid (More w W) := Hm1.out.trans Hm1W.out;have Hf : Hid (∀ j, j < 3 -> W.cell? ⟨w1.heap.size, j, none⟩ = some (.int .i64 (tri a b c j))) := by rw [HW.out]; exact J0n (by go_simp) (by go_simp) (by go_simp)
 have Hg' : Hid (∀ j, j < 3 -> W.cell? ⟨g, j, none⟩ = some (.int .i64 (tri 1 0 0 j))) := fun j hj => Hm1W.out.cell (Hg.out j hj)
 clear Hg;replace c0 := Hm1W.out.cell c0;replace c1 := Hm1W.out.cell c1;replace d0 := Hm1W.out.cell d0;replace d1 := Hm1W.out.cell d1;replace d2 := Hm1W.out.cell d2;replace d3 := Hm1W.out.cell d3;replace d4 := Hm1W.out.cell d4;go_loopg [11] 3 (fun q i wr => ∃ k : Nat, k + q = 3 /\ i = .int .i64 k /\ (∀ j, j < k -> Fld regs (tri 1 0 0 j) (tri a b c j)) /\ wr = W)
 case atStart => exact ⟨0, by omega, rfl, fun j hj => by omega, HW.out.symm⟩
 case round =>
  obtain ⟨k, hkg, rfl, hok, rfl⟩ := hrel;have Hok : Hid (∀ j, j < k -> Fld regs (tri 1 0 0 j) (tri a b c j)) := hok;clear hok;cases gk with
  | zero =>
   obtain rfl : k = 3 := by omega
   go_wp2;go_ret;exact Says.yes (HP.out.2 ⟨HN.out, Hok.out, trivial⟩) Hm.out
  | succ q =>
   clear d0 d1 d2 d3 d4 c0 c1;have hk : k < 3 := by omega
   have hk' : (k : Int) < 3 := by omega
   have hk0 : (0 : Int) <= (k : Int) := by omega
   have qg := Hg'.out k hk;have qf := Hf.out k hk;obtain ⟨x, hx⟩ : ∃ x, tri 1 0 0 k = x := ⟨_, rfl⟩;obtain ⟨y, hy⟩ : ∃ y, tri a b c k = y := ⟨_, rfl⟩;rw [hx] at qg;rw [hy] at qf;have HX : Hid (tri 1 0 0 k = x /\ tri a b c k = y) := ⟨hx, hy⟩;clear hx hy
   have step : Hid (Fld regs x y -> ∀ j, j < k + 1 -> Fld regs (tri 1 0 0 j) (tri a b c j)) := by
    intro h j hj;by_cases e : j = k
    ·subst e; rw [HX.out.1, HX.out.2]; exact h
    ·exact Hok.out j (by omega)
   have back : Hid ((∀ j, j < 3 -> Fld regs (tri 1 0 0 j) (tri a b c j)) -> Fld regs x y) := by
    intro h;have := h k hk;rw [HX.out.1, HX.out.2] at this;exact this
   by_cases hx0 : x = 0
   ·subst hx0
    by_cases hy0 : y = 0
    ·subst hy0
     go_wp2;go_roundg q
     case measure => omega
     case rel => exact ⟨k + 1, by omega, by first | rfl | simp, step.out ⟨fun _ => rfl, fun h => by simp at h⟩, rfl⟩
    ·have hy1 : (y != 0) = true := by simp [hy0]
     have Hy : Hid (¬ y = 0) := hy0;clear hy0;go_wp2;go_ret;exact Says.no (fun h => Hy.out ((back.out (HP.out.1 h).2.1).1 rfl)) Hm.out
   by_cases hx1 : x = 1
   ·subst hx1
    clear hx0;by_cases hy0 : y < 0
    ·have Hy : Hid (y < 0) := hy0
     go_wp2;go_ret;exact Says.no (fun h => by have := ((back.out (HP.out.1 h).2.1).2 rfl).1; have := Hy.out; omega) Hm.out
    by_cases hy1 : regs <= y
    ·have Hy : Hid (regs <= y) := hy1
     go_wp2;go_ret;exact Says.no (fun h => by have := ((back.out (HP.out.1 h).2.1).2 rfl).2; have := Hy.out; omega) Hm.out
    have Hy : Hid (Reg regs y) := ⟨by omega, by omega⟩;go_wp2;go_roundg q
    case measure => omega
    case rel => exact ⟨k + 1, by omega, by first | rfl | simp, step.out ⟨fun h => by simp at h, fun _ => Hy.out⟩, rfl⟩
   have Hx : Hid (¬ x = 0 /\ ¬ x = 1) := ⟨hx0, hx1⟩;have hx2 : (x == 0) = false := by simp [hx0]
   have hx3 : (x == 1) = false := by simp [hx1]
   clear hx0 hx1;go_wp2;go_roundg q
   case measure => omega
   case rel => exact ⟨k + 1, by omega, by first | rfl | simp, step.out ⟨fun h => absurd h Hx.out.1, fun h => absurd h Hx.out.2⟩, rfl⟩
set_option maxRecDepth 8000 in
theorem ins_3 (ra : Option Addr) (rl rc : Nat) (ca : Option Addr) (cl cc : Nat) (a b c n regs : Int) (w : World) (P : Prop) (HP : Hid (P ↔ (True /\ (∀ j, j < 3 -> Fld regs (tri 1 1 2 j) (tri a b c j)) /\ Rgn rl c))) :
  Calls Tryz.prog 49 #[.agg #[.slice ra rl rc, .slice ca cl cc], .agg #[.int .i64 3, .int .i64 a, .int .i64 b, .int .i64 c, .int .i64 n], .int .i64 regs] w (Says P w) := by
 go_enter Tryz.func49, Tryz.ntmps49;go_wp2_with (fail)
 refine (Jke _).mono ?_;rintro e w1 ⟨g, rfl, hg, m1⟩;obtain ⟨⟨c0, c1⟩, d0, d1, d2, d3, d4⟩ := J36 m1;have Hg : Hid (∀ j, j < 3 -> w1.cell? ⟨g, j, none⟩ = some (.int .i64 (tri 1 1 2 j))) := hg;have Hm1 : Hid (More w w1) := (((More.refl _).alloc _ _).alloc _ _).trans m1;clear hg m1;have HN : Hid True := trivial;go_wp2;obtain ⟨W, HW⟩ : ∃ W : World, Hid (W = w1.alloc (.cells #[.int .i64 a, .int .i64 b, .int .i64 c] 3)) := ⟨_, rfl⟩;have Hm1W : Hid (More w1 W) := HW.out ▸ (More.refl _).alloc _ _;have Hm : Hid (More w W) := Hm1.out.trans Hm1W.out;have Hf : Hid (∀ j, j < 3 -> W.cell? ⟨w1.heap.size, j, none⟩ = some (.int .i64 (tri a b c j))) := by rw [HW.out]; exact J0n (by go_simp) (by go_simp) (by go_simp)
 have Hg' : Hid (∀ j, j < 3 -> W.cell? ⟨g, j, none⟩ = some (.int .i64 (tri 1 1 2 j))) := fun j hj => Hm1W.out.cell (Hg.out j hj)
 clear Hg;replace c0 := Hm1W.out.cell c0;replace c1 := Hm1W.out.cell c1;replace d0 := Hm1W.out.cell d0;replace d1 := Hm1W.out.cell d1;replace d2 := Hm1W.out.cell d2;replace d3 := Hm1W.out.cell d3;replace d4 := Hm1W.out.cell d4;go_loopg [11] 3 (fun q i wr => ∃ k : Nat, k + q = 3 /\ i = .int .i64 k /\ (∀ j, j < k -> Fld regs (tri 1 1 2 j) (tri a b c j)) /\ wr = W)
 case atStart => exact ⟨0, by omega, rfl, fun j hj => by omega, HW.out.symm⟩
 case round =>
  obtain ⟨k, hkg, rfl, hok, rfl⟩ := hrel;have Hok : Hid (∀ j, j < k -> Fld regs (tri 1 1 2 j) (tri a b c j)) := hok;clear hok;cases gk with
  | zero =>
   obtain rfl : k = 3 := by omega
   by_cases t0 : 0 <= c
   ·by_cases t1 : c < (rl : Int)
    ·have T : Hid (0 <= c /\ c < (rl : Int)) := ⟨t0, t1⟩
     go_wp2;go_ret;exact ⟨_, rfl, ⟨fun _ => HP.out.2 ⟨HN.out, Hok.out, T.out⟩, fun _ => by first | rfl | (simp <;> omega)⟩, Hm.out⟩
    ·have T : Hid (¬ c < (rl : Int)) := t1
     go_wp2;go_ret;exact ⟨_, rfl, ⟨fun h => by first | (simp at h; done) | (simp at h; omega), fun h => by have h1 := (HP.out.1 h).2.2; have h2 := T.out; have h3 := h1.2; omega⟩, Hm.out⟩
   ·have T : Hid (¬ 0 <= c) := t0
    go_wp2;go_ret;exact ⟨_, rfl, ⟨fun h => by first | (simp at h; done) | (simp at h; omega), fun h => by have h1 := (HP.out.1 h).2.2; have h2 := T.out; have h3 := h1.1; omega⟩, Hm.out⟩
  | succ q =>
   clear d0 d1 d2 d3 d4 c0 c1;have hk : k < 3 := by omega
   have hk' : (k : Int) < 3 := by omega
   have hk0 : (0 : Int) <= (k : Int) := by omega
   have qg := Hg'.out k hk;have qf := Hf.out k hk;obtain ⟨x, hx⟩ : ∃ x, tri 1 1 2 k = x := ⟨_, rfl⟩;obtain ⟨y, hy⟩ : ∃ y, tri a b c k = y := ⟨_, rfl⟩;rw [hx] at qg;rw [hy] at qf;have HX : Hid (tri 1 1 2 k = x /\ tri a b c k = y) := ⟨hx, hy⟩;clear hx hy
   have step : Hid (Fld regs x y -> ∀ j, j < k + 1 -> Fld regs (tri 1 1 2 j) (tri a b c j)) := by
    intro h j hj;by_cases e : j = k
    ·subst e; rw [HX.out.1, HX.out.2]; exact h
    ·exact Hok.out j (by omega)
   have back : Hid ((∀ j, j < 3 -> Fld regs (tri 1 1 2 j) (tri a b c j)) -> Fld regs x y) := by
    intro h;have := h k hk;rw [HX.out.1, HX.out.2] at this;exact this
   by_cases hx0 : x = 0
   ·subst hx0
    by_cases hy0 : y = 0
    ·subst hy0
     go_wp2;go_roundg q
     case measure => omega
     case rel => exact ⟨k + 1, by omega, by first | rfl | simp, step.out ⟨fun _ => rfl, fun h => by simp at h⟩, rfl⟩
    ·have hy1 : (y != 0) = true := by simp [hy0]
     have Hy : Hid (¬ y = 0) := hy0;clear hy0;go_wp2;go_ret;exact Says.no (fun h => Hy.out ((back.out (HP.out.1 h).2.1).1 rfl)) Hm.out
   by_cases hx1 : x = 1
   ·subst hx1
    clear hx0;by_cases hy0 : y < 0
    ·have Hy : Hid (y < 0) := hy0
     go_wp2;go_ret;exact Says.no (fun h => by have := ((back.out (HP.out.1 h).2.1).2 rfl).1; have := Hy.out; omega) Hm.out
    by_cases hy1 : regs <= y
    ·have Hy : Hid (regs <= y) := hy1
     go_wp2;go_ret;exact Says.no (fun h => by have := ((back.out (HP.out.1 h).2.1).2 rfl).2; have := Hy.out; omega) Hm.out
    have Hy : Hid (Reg regs y) := ⟨by omega, by omega⟩;go_wp2;go_roundg q
    case measure => omega
    case rel => exact ⟨k + 1, by omega, by first | rfl | simp, step.out ⟨fun h => by simp at h, fun _ => Hy.out⟩, rfl⟩
   have Hx : Hid (¬ x = 0 /\ ¬ x = 1) := ⟨hx0, hx1⟩;have hx2 : (x == 0) = false := by simp [hx0]
   have hx3 : (x == 1) = false := by simp [hx1]
   clear hx0 hx1;go_wp2;go_roundg q
   case measure => omega
   case rel => exact ⟨k + 1, by omega, by first | rfl | simp, step.out ⟨fun h => absurd h Hx.out.1, fun h => absurd h Hx.out.2⟩, rfl⟩

set_option maxRecDepth 8000 in
theorem ins_4 (ra : Option Addr) (rl rc : Nat) (ca : Option Addr) (cl cc : Nat) (a b c n regs : Int) (w : World) (P : Prop) (HP : Hid (P ↔ (True /\ (∀ j, j < 3 -> Fld regs (tri 1 1 2 j) (tri a b c j)) /\ Rgn rl c))) :
  Calls Tryz.prog 49 #[.agg #[.slice ra rl rc, .slice ca cl cc], .agg #[.int .i64 4, .int .i64 a, .int .i64 b, .int .i64 c, .int .i64 n], .int .i64 regs] w (Says P w) := by
 go_enter Tryz.func49, Tryz.ntmps49;go_wp2_with (fail)
 refine (Jkf _).mono ?_;rintro e w1 ⟨g, rfl, hg, m1⟩;obtain ⟨⟨c0, c1⟩, d0, d1, d2, d3, d4⟩ := J36 m1;have Hg : Hid (∀ j, j < 3 -> w1.cell? ⟨g, j, none⟩ = some (.int .i64 (tri 1 1 2 j))) := hg;have Hm1 : Hid (More w w1) := (((More.refl _).alloc _ _).alloc _ _).trans m1;clear hg m1;have HN : Hid True := trivial;go_wp2;obtain ⟨W, HW⟩ : ∃ W : World, Hid (W = w1.alloc (.cells #[.int .i64 a, .int .i64 b, .int .i64 c] 3)) := ⟨_, rfl⟩;have Hm1W : Hid (More w1 W) := HW.out ▸ (More.refl _).alloc _ _;have Hm : Hid (More w W) := Hm1.out.trans Hm1W.out;have Hf : Hid (∀ j, j < 3 -> W.cell? ⟨w1.heap.size, j, none⟩ = some (.int .i64 (tri a b c j))) := by rw [HW.out]; exact J0n (by go_simp) (by go_simp) (by go_simp)
 have Hg' : Hid (∀ j, j < 3 -> W.cell? ⟨g, j, none⟩ = some (.int .i64 (tri 1 1 2 j))) := fun j hj => Hm1W.out.cell (Hg.out j hj)
 clear Hg;replace c0 := Hm1W.out.cell c0;replace c1 := Hm1W.out.cell c1;replace d0 := Hm1W.out.cell d0;replace d1 := Hm1W.out.cell d1;replace d2 := Hm1W.out.cell d2;replace d3 := Hm1W.out.cell d3;replace d4 := Hm1W.out.cell d4;go_loopg [11] 3 (fun q i wr => ∃ k : Nat, k + q = 3 /\ i = .int .i64 k /\ (∀ j, j < k -> Fld regs (tri 1 1 2 j) (tri a b c j)) /\ wr = W)
 case atStart => exact ⟨0, by omega, rfl, fun j hj => by omega, HW.out.symm⟩
 case round =>
  obtain ⟨k, hkg, rfl, hok, rfl⟩ := hrel;have Hok : Hid (∀ j, j < k -> Fld regs (tri 1 1 2 j) (tri a b c j)) := hok;clear hok;cases gk with
  | zero =>
   obtain rfl : k = 3 := by omega
   by_cases t0 : 0 <= c
   ·by_cases t1 : c < (rl : Int)
    ·have T : Hid (0 <= c /\ c < (rl : Int)) := ⟨t0, t1⟩
     go_wp2;go_ret;exact ⟨_, rfl, ⟨fun _ => HP.out.2 ⟨HN.out, Hok.out, T.out⟩, fun _ => by first | rfl | (simp <;> omega)⟩, Hm.out⟩
    ·have T : Hid (¬ c < (rl : Int)) := t1
     go_wp2;go_ret;exact ⟨_, rfl, ⟨fun h => by first | (simp at h; done) | (simp at h; omega), fun h => by have h1 := (HP.out.1 h).2.2; have h2 := T.out; have h3 := h1.2; omega⟩, Hm.out⟩
   ·have T : Hid (¬ 0 <= c) := t0
    go_wp2;go_ret;exact ⟨_, rfl, ⟨fun h => by first | (simp at h; done) | (simp at h; omega), fun h => by have h1 := (HP.out.1 h).2.2; have h2 := T.out; have h3 := h1.1; omega⟩, Hm.out⟩
  | succ q =>
   clear d0 d1 d2 d3 d4 c0 c1;have hk : k < 3 := by omega
   have hk' : (k : Int) < 3 := by omega
   have hk0 : (0 : Int) <= (k : Int) := by omega
   have qg := Hg'.out k hk;have qf := Hf.out k hk;obtain ⟨x, hx⟩ : ∃ x, tri 1 1 2 k = x := ⟨_, rfl⟩;obtain ⟨y, hy⟩ : ∃ y, tri a b c k = y := ⟨_, rfl⟩;rw [hx] at qg;rw [hy] at qf;have HX : Hid (tri 1 1 2 k = x /\ tri a b c k = y) := ⟨hx, hy⟩;clear hx hy
   have step : Hid (Fld regs x y -> ∀ j, j < k + 1 -> Fld regs (tri 1 1 2 j) (tri a b c j)) := by
    intro h j hj;by_cases e : j = k
    ·subst e; rw [HX.out.1, HX.out.2]; exact h
    ·exact Hok.out j (by omega)
   have back : Hid ((∀ j, j < 3 -> Fld regs (tri 1 1 2 j) (tri a b c j)) -> Fld regs x y) := by
    intro h;have := h k hk;rw [HX.out.1, HX.out.2] at this;exact this
   by_cases hx0 : x = 0
   ·subst hx0
    by_cases hy0 : y = 0
    ·subst hy0
     go_wp2;go_roundg q
     case measure => omega
     case rel => exact ⟨k + 1, by omega, by first | rfl | simp, step.out ⟨fun _ => rfl, fun h => by simp at h⟩, rfl⟩
    ·have hy1 : (y != 0) = true := by simp [hy0]
     have Hy : Hid (¬ y = 0) := hy0;clear hy0;go_wp2;go_ret;exact Says.no (fun h => Hy.out ((back.out (HP.out.1 h).2.1).1 rfl)) Hm.out
   by_cases hx1 : x = 1
   ·subst hx1
    clear hx0;by_cases hy0 : y < 0
    ·have Hy : Hid (y < 0) := hy0
     go_wp2;go_ret;exact Says.no (fun h => by have := ((back.out (HP.out.1 h).2.1).2 rfl).1; have := Hy.out; omega) Hm.out
    by_cases hy1 : regs <= y
    ·have Hy : Hid (regs <= y) := hy1
     go_wp2;go_ret;exact Says.no (fun h => by have := ((back.out (HP.out.1 h).2.1).2 rfl).2; have := Hy.out; omega) Hm.out
    have Hy : Hid (Reg regs y) := ⟨by omega, by omega⟩;go_wp2;go_roundg q
    case measure => omega
    case rel => exact ⟨k + 1, by omega, by first | rfl | simp, step.out ⟨fun h => by simp at h, fun _ => Hy.out⟩, rfl⟩
   have Hx : Hid (¬ x = 0 /\ ¬ x = 1) := ⟨hx0, hx1⟩;have hx2 : (x == 0) = false := by simp [hx0]
   have hx3 : (x == 1) = false := by simp [hx1]
   clear hx0 hx1;go_wp2;go_roundg q
   case measure => omega
   case rel => exact ⟨k + 1, by omega, by first | rfl | simp, step.out ⟨fun h => absurd h Hx.out.1, fun h => absurd h Hx.out.2⟩, rfl⟩

set_option maxRecDepth 8000 in
theorem Jl7 (ra : Option Addr) (rl rc : Nat) (ca : Option Addr) (cl cc : Nat) (a b c n regs : Int) (w : World) (P : Prop) (HP : Hid (P ↔ (n = 0 /\ (∀ j, j < 3 -> Fld regs (tri 0 0 0 j) (tri a b c j)) /\ True))) :
  Calls Tryz.prog 49 #[.agg #[.slice ra rl rc, .slice ca cl cc], .agg #[.int .i64 12, .int .i64 a, .int .i64 b, .int .i64 c, .int .i64 n], .int .i64 regs] w (Says P w) := by
 go_enter Tryz.func49, Tryz.ntmps49;go_wp2_with (fail)
 refine (Ji5 _).mono ?_;rintro e w1 ⟨g, rfl, hg, m1⟩;obtain ⟨⟨c0, c1⟩, d0, d1, d2, d3, d4⟩ := J36 m1;have Hg : Hid (∀ j, j < 3 -> w1.cell? ⟨g, j, none⟩ = some (.int .i64 (tri 0 0 0 j))) := hg;have Hm1 : Hid (More w w1) := (((More.refl _).alloc _ _).alloc _ _).trans m1;clear hg m1;by_cases hn0 : n = 0
 rotate_left
 ·have HN : Hid (¬ n = 0) := hn0
  have hn1 : (n != 0) = true := by simp [hn0]
  clear hn0;go_wp2;go_ret;exact Says.no (fun h => HN.out (HP.out.1 h).1) Hm1.out
 have HN : Hid (n = 0) := hn0;have hn1 : (n != 0) = false := by simp [hn0]
 clear hn0;go_wp2;obtain ⟨W, HW⟩ : ∃ W : World, Hid (W = w1.alloc (.cells #[.int .i64 a, .int .i64 b, .int .i64 c] 3)) := ⟨_, rfl⟩;have Hm1W : Hid (More w1 W) := HW.out ▸ (More.refl _).alloc _ _;have Hm : Hid (More w W) := Hm1.out.trans Hm1W.out;have Hf : Hid (∀ j, j < 3 -> W.cell? ⟨w1.heap.size, j, none⟩ = some (.int .i64 (tri a b c j))) := by rw [HW.out]; exact J0n (by go_simp) (by go_simp) (by go_simp)
 have Hg' : Hid (∀ j, j < 3 -> W.cell? ⟨g, j, none⟩ = some (.int .i64 (tri 0 0 0 j))) := fun j hj => Hm1W.out.cell (Hg.out j hj)
 clear Hg;replace c0 := Hm1W.out.cell c0;replace c1 := Hm1W.out.cell c1;replace d0 := Hm1W.out.cell d0;replace d1 := Hm1W.out.cell d1;replace d2 := Hm1W.out.cell d2;replace d3 := Hm1W.out.cell d3;replace d4 := Hm1W.out.cell d4;go_loopg [11] 3 (fun q i wr => ∃ k : Nat, k + q = 3 /\ i = .int .i64 k /\ (∀ j, j < k -> Fld regs (tri 0 0 0 j) (tri a b c j)) /\ wr = W)
 case atStart => exact ⟨0, by omega, rfl, fun j hj => by omega, HW.out.symm⟩
 case round =>
  obtain ⟨k, hkg, rfl, hok, rfl⟩ := hrel;have Hok : Hid (∀ j, j < k -> Fld regs (tri 0 0 0 j) (tri a b c j)) := hok;clear hok;cases gk with
  | zero =>
   obtain rfl : k = 3 := by omega
   go_wp2;go_ret;exact Says.yes (HP.out.2 ⟨HN.out, Hok.out, trivial⟩) Hm.out
  | succ q =>
   clear d0 d1 d2 d3 d4 c0 c1;have hk : k < 3 := by omega
   have hk' : (k : Int) < 3 := by omega
   have hk0 : (0 : Int) <= (k : Int) := by omega
   have qg := Hg'.out k hk;have qf := Hf.out k hk;obtain ⟨x, hx⟩ : ∃ x, tri 0 0 0 k = x := ⟨_, rfl⟩;obtain ⟨y, hy⟩ : ∃ y, tri a b c k = y := ⟨_, rfl⟩;rw [hx] at qg;rw [hy] at qf;have HX : Hid (tri 0 0 0 k = x /\ tri a b c k = y) := ⟨hx, hy⟩;clear hx hy
   have step : Hid (Fld regs x y -> ∀ j, j < k + 1 -> Fld regs (tri 0 0 0 j) (tri a b c j)) := by
    intro h j hj;by_cases e : j = k
    ·subst e; rw [HX.out.1, HX.out.2]; exact h
    ·exact Hok.out j (by omega)
   have back : Hid ((∀ j, j < 3 -> Fld regs (tri 0 0 0 j) (tri a b c j)) -> Fld regs x y) := by
    intro h;have := h k hk;rw [HX.out.1, HX.out.2] at this;exact this
   by_cases hx0 : x = 0
   ·subst hx0
    by_cases hy0 : y = 0
    ·subst hy0
     go_wp2;go_roundg q
     case measure => omega
     case rel => exact ⟨k + 1, by omega, by first | rfl | simp, step.out ⟨fun _ => rfl, fun h => by simp at h⟩, rfl⟩
    ·have hy1 : (y != 0) = true := by simp [hy0]
     have Hy : Hid (¬ y = 0) := hy0;clear hy0;go_wp2;go_ret;exact Says.no (fun h => Hy.out ((back.out (HP.out.1 h).2.1).1 rfl)) Hm.out
   by_cases hx1 : x = 1
   ·subst hx1
    clear hx0;by_cases hy0 : y < 0
    ·have Hy : Hid (y < 0) := hy0
     go_wp2;go_ret;exact Says.no (fun h => by have := ((back.out (HP.out.1 h).2.1).2 rfl).1; have := Hy.out; omega) Hm.out
    by_cases hy1 : regs <= y
    ·have Hy : Hid (regs <= y) := hy1
     go_wp2;go_ret;exact Says.no (fun h => by have := ((back.out (HP.out.1 h).2.1).2 rfl).2; have := Hy.out; omega) Hm.out
    have Hy : Hid (Reg regs y) := ⟨by omega, by omega⟩;go_wp2;go_roundg q
    case measure => omega
    case rel => exact ⟨k + 1, by omega, by first | rfl | simp, step.out ⟨fun h => by simp at h, fun _ => Hy.out⟩, rfl⟩
   have Hx : Hid (¬ x = 0 /\ ¬ x = 1) := ⟨hx0, hx1⟩;have hx2 : (x == 0) = false := by simp [hx0]
   have hx3 : (x == 1) = false := by simp [hx1]
   clear hx0 hx1;go_wp2;go_roundg q
   case measure => omega
   case rel => exact ⟨k + 1, by omega, by first | rfl | simp, step.out ⟨fun h => absurd h Hx.out.1, fun h => absurd h Hx.out.2⟩, rfl⟩
set_option maxRecDepth 8000 in
theorem ins_5 (ra : Option Addr) (rl rc : Nat) (ca : Option Addr) (cl cc : Nat) (a b c n regs : Int) (w : World) (rb ro : Nat) (log : Nat -> Int) (sec : Nat -> Bool) (hra : 0 < rl -> ra = some ⟨rb, ro, none⟩) (hr : RegsAt w rb ro rl log sec) (hok : J0g rl log) (P : Prop) (HP : Hid (P ↔ (True /\ (∀ j, j < 3 -> Fld regs (tri 1 0 2 j) (tri a b c j)) /\ Rgn rl c /\ Wrd log c n))) :
  Calls Tryz.prog 49 #[.agg #[.slice ra rl rc, .slice ca cl cc], .agg #[.int .i64 5, .int .i64 a, .int .i64 b, .int .i64 c, .int .i64 n], .int .i64 regs] w (Says P w) := by
 have Hr : Hid ((0 < rl -> ra = some ⟨rb, ro, none⟩) /\ RegsAt w rb ro rl log sec /\ J0g rl log) := ⟨hra, hr, hok⟩;clear hra hr hok;go_enter Tryz.func49, Tryz.ntmps49;go_wp2_with (fail)
 refine (Jkg _).mono ?_;rintro e w1 ⟨g, rfl, hg, m1⟩;obtain ⟨⟨c0, c1⟩, d0, d1, d2, d3, d4⟩ := J36 m1;have Hg : Hid (∀ j, j < 3 -> w1.cell? ⟨g, j, none⟩ = some (.int .i64 (tri 1 0 2 j))) := hg;have Hm1 : Hid (More w w1) := (((More.refl _).alloc _ _).alloc _ _).trans m1;clear hg m1;have HN : Hid True := trivial;go_wp2;obtain ⟨W, HW⟩ : ∃ W : World, Hid (W = w1.alloc (.cells #[.int .i64 a, .int .i64 b, .int .i64 c] 3)) := ⟨_, rfl⟩;have Hm1W : Hid (More w1 W) := HW.out ▸ (More.refl _).alloc _ _;have Hm : Hid (More w W) := Hm1.out.trans Hm1W.out;have Hf : Hid (∀ j, j < 3 -> W.cell? ⟨w1.heap.size, j, none⟩ = some (.int .i64 (tri a b c j))) := by rw [HW.out]; exact J0n (by go_simp) (by go_simp) (by go_simp)
 have Hg' : Hid (∀ j, j < 3 -> W.cell? ⟨g, j, none⟩ = some (.int .i64 (tri 1 0 2 j))) := fun j hj => Hm1W.out.cell (Hg.out j hj)
 clear Hg;replace c0 := Hm1W.out.cell c0;replace c1 := Hm1W.out.cell c1;replace d0 := Hm1W.out.cell d0;replace d1 := Hm1W.out.cell d1;replace d2 := Hm1W.out.cell d2;replace d3 := Hm1W.out.cell d3;replace d4 := Hm1W.out.cell d4;go_loopg [11] 3 (fun q i wr => ∃ k : Nat, k + q = 3 /\ i = .int .i64 k /\ (∀ j, j < k -> Fld regs (tri 1 0 2 j) (tri a b c j)) /\ wr = W)
 case atStart => exact ⟨0, by omega, rfl, fun j hj => by omega, HW.out.symm⟩
 case round =>
  obtain ⟨k, hkg, rfl, hok, rfl⟩ := hrel;have Hok : Hid (∀ j, j < k -> Fld regs (tri 1 0 2 j) (tri a b c j)) := hok;clear hok;cases gk with
  | zero =>
   obtain rfl : k = 3 := by omega
   by_cases t0 : c < 0
   ·have T : Hid (c < 0) := t0
    go_wp2;go_ret;exact ⟨_, rfl, ⟨fun h => by first | (simp at h; done) | (simp at h; omega), fun h => by have h1 := (HP.out.1 h).2.2; have h2 := T.out; have h3 := h1.1.1; omega⟩, Hm.out⟩
   by_cases t1 : (rl : Int) <= c
   ·have T : Hid ((rl : Int) <= c) := t1
    go_wp2;go_ret;exact ⟨_, rfl, ⟨fun h => by first | (simp at h; done) | (simp at h; omega), fun h => by have h1 := (HP.out.1 h).2.2; have h2 := T.out; have h3 := h1.1.2; omega⟩, Hm.out⟩
   have hk : c.toNat < rl := by omega
   have t0' : 0 <= c := by omega
   have t1' : c < (rl : Int) := by omega
   have Hrgn : Hid (Rgn rl c) := ⟨t0', t1'⟩;obtain rfl := Hr.out.1 (by omega);have q0 := ((Hr.out.2.1.more Hm.out) c.toNat hk).1;have q1 := ((Hr.out.2.1.more Hm.out) c.toNat hk).2;have Hlog : Hid (0 <= log c.toNat /\ log c.toNat <= 6) := Hr.out.2.2.2 c.toNat hk;obtain ⟨lk, hlk⟩ : ∃ x, log c.toNat = x := ⟨_, rfl⟩;rw [hlk] at q0 Hlog;have Hlk : Hid (log c.toNat = lk) := hlk;clear hlk;go_wp2_with (fail)
   obtain ⟨nw, hnw⟩ : ∃ x, J0c lk = x := ⟨_, rfl⟩;refine ((J3a lk Hlog.out.1 Hlog.out.2 (sec c.toNat) _)).mono ?_;rw [hnw];have Hnw : Hid (Wrd log c n ↔ (0 <= n /\ n < nw)) := by unfold Wrd; rw [Hlk.out, <- hnw]; exact Iff.rfl
   clear hnw q0 q1;rintro e w5 ⟨rfl, m5⟩;have d4' := m5.cell d4;clear d4 d3 d2 d1 d0 c0 c1;have Hm5 : Hid (More w w5) := Hm.out.trans m5;clear m5;by_cases t2 : 0 <= n
   ·by_cases t3 : n < nw
    ·have T : Hid (Wrd log c n) := Hnw.out.2 ⟨t2, t3⟩
     go_wp2;go_ret;exact ⟨_, rfl, ⟨fun _ => HP.out.2 ⟨HN.out, Hok.out, Hrgn.out, T.out⟩, fun _ => by first | rfl | (simp <;> omega)⟩, Hm5.out⟩
    ·have T : Hid (nw <= n) := (by omega : nw <= n)
     go_wp2;go_ret;exact ⟨_, rfl, ⟨fun h => by first | (simp at h; done) | (simp at h; omega), fun h => by have h1 := (HP.out.1 h).2.2; have h2 := T.out; have h3 := (Hnw.out.1 h1.2).2; omega⟩, Hm5.out⟩
   ·have T : Hid (n < 0) := (by omega : n < 0)
    go_wp2;go_ret;exact ⟨_, rfl, ⟨fun h => by first | (simp at h; done) | (simp at h; omega), fun h => by have h1 := (HP.out.1 h).2.2; have h2 := T.out; have h3 := (Hnw.out.1 h1.2).1; omega⟩, Hm5.out⟩
  | succ q =>
   clear d0 d1 d2 d3 d4 c0 c1;have hk : k < 3 := by omega
   have hk' : (k : Int) < 3 := by omega
   have hk0 : (0 : Int) <= (k : Int) := by omega
   have qg := Hg'.out k hk;have qf := Hf.out k hk;obtain ⟨x, hx⟩ : ∃ x, tri 1 0 2 k = x := ⟨_, rfl⟩;obtain ⟨y, hy⟩ : ∃ y, tri a b c k = y := ⟨_, rfl⟩;rw [hx] at qg;rw [hy] at qf;have HX : Hid (tri 1 0 2 k = x /\ tri a b c k = y) := ⟨hx, hy⟩;clear hx hy
   have step : Hid (Fld regs x y -> ∀ j, j < k + 1 -> Fld regs (tri 1 0 2 j) (tri a b c j)) := by
    intro h j hj;by_cases e : j = k
    ·subst e; rw [HX.out.1, HX.out.2]; exact h
    ·exact Hok.out j (by omega)
   have back : Hid ((∀ j, j < 3 -> Fld regs (tri 1 0 2 j) (tri a b c j)) -> Fld regs x y) := by
    intro h;have := h k hk;rw [HX.out.1, HX.out.2] at this;exact this
   by_cases hx0 : x = 0
   ·subst hx0
    by_cases hy0 : y = 0
    ·subst hy0
     go_wp2;go_roundg q
     case measure => omega
     case rel => exact ⟨k + 1, by omega, by first | rfl | simp, step.out ⟨fun _ => rfl, fun h => by simp at h⟩, rfl⟩
    ·have hy1 : (y != 0) = true := by simp [hy0]
     have Hy : Hid (¬ y = 0) := hy0;clear hy0;go_wp2;go_ret;exact Says.no (fun h => Hy.out ((back.out (HP.out.1 h).2.1).1 rfl)) Hm.out
   by_cases hx1 : x = 1
   ·subst hx1
    clear hx0;by_cases hy0 : y < 0
    ·have Hy : Hid (y < 0) := hy0
     go_wp2;go_ret;exact Says.no (fun h => by have := ((back.out (HP.out.1 h).2.1).2 rfl).1; have := Hy.out; omega) Hm.out
    by_cases hy1 : regs <= y
    ·have Hy : Hid (regs <= y) := hy1
     go_wp2;go_ret;exact Says.no (fun h => by have := ((back.out (HP.out.1 h).2.1).2 rfl).2; have := Hy.out; omega) Hm.out
    have Hy : Hid (Reg regs y) := ⟨by omega, by omega⟩;go_wp2;go_roundg q
    case measure => omega
    case rel => exact ⟨k + 1, by omega, by first | rfl | simp, step.out ⟨fun h => by simp at h, fun _ => Hy.out⟩, rfl⟩
   have Hx : Hid (¬ x = 0 /\ ¬ x = 1) := ⟨hx0, hx1⟩;have hx2 : (x == 0) = false := by simp [hx0]
   have hx3 : (x == 1) = false := by simp [hx1]
   clear hx0 hx1;go_wp2;go_roundg q
   case measure => omega
   case rel => exact ⟨k + 1, by omega, by first | rfl | simp, step.out ⟨fun h => absurd h Hx.out.1, fun h => absurd h Hx.out.2⟩, rfl⟩

set_option maxRecDepth 8000 in
theorem ins_6 (ra : Option Addr) (rl rc : Nat) (ca : Option Addr) (cl cc : Nat) (a b c n regs : Int) (w : World) (rb ro : Nat) (log : Nat -> Int) (sec : Nat -> Bool) (hra : 0 < rl -> ra = some ⟨rb, ro, none⟩) (hr : RegsAt w rb ro rl log sec) (hok : J0g rl log) (P : Prop) (HP : Hid (P ↔ (True /\ (∀ j, j < 3 -> Fld regs (tri 1 0 2 j) (tri a b c j)) /\ Rgn rl c /\ Wrd log c n))) :
  Calls Tryz.prog 49 #[.agg #[.slice ra rl rc, .slice ca cl cc], .agg #[.int .i64 6, .int .i64 a, .int .i64 b, .int .i64 c, .int .i64 n], .int .i64 regs] w (Says P w) := by
 have Hr : Hid ((0 < rl -> ra = some ⟨rb, ro, none⟩) /\ RegsAt w rb ro rl log sec /\ J0g rl log) := ⟨hra, hr, hok⟩;clear hra hr hok;go_enter Tryz.func49, Tryz.ntmps49;go_wp2_with (fail)
 refine (Jkh _).mono ?_;rintro e w1 ⟨g, rfl, hg, m1⟩;obtain ⟨⟨c0, c1⟩, d0, d1, d2, d3, d4⟩ := J36 m1;have Hg : Hid (∀ j, j < 3 -> w1.cell? ⟨g, j, none⟩ = some (.int .i64 (tri 1 0 2 j))) := hg;have Hm1 : Hid (More w w1) := (((More.refl _).alloc _ _).alloc _ _).trans m1;clear hg m1;have HN : Hid True := trivial;go_wp2;obtain ⟨W, HW⟩ : ∃ W : World, Hid (W = w1.alloc (.cells #[.int .i64 a, .int .i64 b, .int .i64 c] 3)) := ⟨_, rfl⟩;have Hm1W : Hid (More w1 W) := HW.out ▸ (More.refl _).alloc _ _;have Hm : Hid (More w W) := Hm1.out.trans Hm1W.out;have Hf : Hid (∀ j, j < 3 -> W.cell? ⟨w1.heap.size, j, none⟩ = some (.int .i64 (tri a b c j))) := by rw [HW.out]; exact J0n (by go_simp) (by go_simp) (by go_simp)
 have Hg' : Hid (∀ j, j < 3 -> W.cell? ⟨g, j, none⟩ = some (.int .i64 (tri 1 0 2 j))) := fun j hj => Hm1W.out.cell (Hg.out j hj)
 clear Hg;replace c0 := Hm1W.out.cell c0;replace c1 := Hm1W.out.cell c1;replace d0 := Hm1W.out.cell d0;replace d1 := Hm1W.out.cell d1;replace d2 := Hm1W.out.cell d2;replace d3 := Hm1W.out.cell d3;replace d4 := Hm1W.out.cell d4;go_loopg [11] 3 (fun q i wr => ∃ k : Nat, k + q = 3 /\ i = .int .i64 k /\ (∀ j, j < k -> Fld regs (tri 1 0 2 j) (tri a b c j)) /\ wr = W)
 case atStart => exact ⟨0, by omega, rfl, fun j hj => by omega, HW.out.symm⟩
 case round =>
  obtain ⟨k, hkg, rfl, hok, rfl⟩ := hrel;have Hok : Hid (∀ j, j < k -> Fld regs (tri 1 0 2 j) (tri a b c j)) := hok;clear hok;cases gk with
  | zero =>
   obtain rfl : k = 3 := by omega
   by_cases t0 : c < 0
   ·have T : Hid (c < 0) := t0
    go_wp2;go_ret;exact ⟨_, rfl, ⟨fun h => by first | (simp at h; done) | (simp at h; omega), fun h => by have h1 := (HP.out.1 h).2.2; have h2 := T.out; have h3 := h1.1.1; omega⟩, Hm.out⟩
   by_cases t1 : (rl : Int) <= c
   ·have T : Hid ((rl : Int) <= c) := t1
    go_wp2;go_ret;exact ⟨_, rfl, ⟨fun h => by first | (simp at h; done) | (simp at h; omega), fun h => by have h1 := (HP.out.1 h).2.2; have h2 := T.out; have h3 := h1.1.2; omega⟩, Hm.out⟩
   have hk : c.toNat < rl := by omega
   have t0' : 0 <= c := by omega
   have t1' : c < (rl : Int) := by omega
   have Hrgn : Hid (Rgn rl c) := ⟨t0', t1'⟩;obtain rfl := Hr.out.1 (by omega);have q0 := ((Hr.out.2.1.more Hm.out) c.toNat hk).1;have q1 := ((Hr.out.2.1.more Hm.out) c.toNat hk).2;have Hlog : Hid (0 <= log c.toNat /\ log c.toNat <= 6) := Hr.out.2.2.2 c.toNat hk;obtain ⟨lk, hlk⟩ : ∃ x, log c.toNat = x := ⟨_, rfl⟩;rw [hlk] at q0 Hlog;have Hlk : Hid (log c.toNat = lk) := hlk;clear hlk;go_wp2_with (fail)
   obtain ⟨nw, hnw⟩ : ∃ x, J0c lk = x := ⟨_, rfl⟩;refine ((J3a lk Hlog.out.1 Hlog.out.2 (sec c.toNat) _)).mono ?_;rw [hnw];have Hnw : Hid (Wrd log c n ↔ (0 <= n /\ n < nw)) := by unfold Wrd; rw [Hlk.out, <- hnw]; exact Iff.rfl
   clear hnw q0 q1;rintro e w5 ⟨rfl, m5⟩;have d4' := m5.cell d4;clear d4 d3 d2 d1 d0 c0 c1;have Hm5 : Hid (More w w5) := Hm.out.trans m5;clear m5;by_cases t2 : 0 <= n
   ·by_cases t3 : n < nw
    ·have T : Hid (Wrd log c n) := Hnw.out.2 ⟨t2, t3⟩
     go_wp2;go_ret;exact ⟨_, rfl, ⟨fun _ => HP.out.2 ⟨HN.out, Hok.out, Hrgn.out, T.out⟩, fun _ => by first | rfl | (simp <;> omega)⟩, Hm5.out⟩
    ·have T : Hid (nw <= n) := (by omega : nw <= n)
     go_wp2;go_ret;exact ⟨_, rfl, ⟨fun h => by first | (simp at h; done) | (simp at h; omega), fun h => by have h1 := (HP.out.1 h).2.2; have h2 := T.out; have h3 := (Hnw.out.1 h1.2).2; omega⟩, Hm5.out⟩
   ·have T : Hid (n < 0) := (by omega : n < 0)
    go_wp2;go_ret;exact ⟨_, rfl, ⟨fun h => by first | (simp at h; done) | (simp at h; omega), fun h => by have h1 := (HP.out.1 h).2.2; have h2 := T.out; have h3 := (Hnw.out.1 h1.2).1; omega⟩, Hm5.out⟩
  | succ q =>
   clear d0 d1 d2 d3 d4 c0 c1;have hk : k < 3 := by omega
   have hk' : (k : Int) < 3 := by omega
   have hk0 : (0 : Int) <= (k : Int) := by omega
   have qg := Hg'.out k hk;have qf := Hf.out k hk;obtain ⟨x, hx⟩ : ∃ x, tri 1 0 2 k = x := ⟨_, rfl⟩;obtain ⟨y, hy⟩ : ∃ y, tri a b c k = y := ⟨_, rfl⟩;rw [hx] at qg;rw [hy] at qf;have HX : Hid (tri 1 0 2 k = x /\ tri a b c k = y) := ⟨hx, hy⟩;clear hx hy
   have step : Hid (Fld regs x y -> ∀ j, j < k + 1 -> Fld regs (tri 1 0 2 j) (tri a b c j)) := by
    intro h j hj;by_cases e : j = k
    ·subst e; rw [HX.out.1, HX.out.2]; exact h
    ·exact Hok.out j (by omega)
   have back : Hid ((∀ j, j < 3 -> Fld regs (tri 1 0 2 j) (tri a b c j)) -> Fld regs x y) := by
    intro h;have := h k hk;rw [HX.out.1, HX.out.2] at this;exact this
   by_cases hx0 : x = 0
   ·subst hx0
    by_cases hy0 : y = 0
    ·subst hy0
     go_wp2;go_roundg q
     case measure => omega
     case rel => exact ⟨k + 1, by omega, by first | rfl | simp, step.out ⟨fun _ => rfl, fun h => by simp at h⟩, rfl⟩
    ·have hy1 : (y != 0) = true := by simp [hy0]
     have Hy : Hid (¬ y = 0) := hy0;clear hy0;go_wp2;go_ret;exact Says.no (fun h => Hy.out ((back.out (HP.out.1 h).2.1).1 rfl)) Hm.out
   by_cases hx1 : x = 1
   ·subst hx1
    clear hx0;by_cases hy0 : y < 0
    ·have Hy : Hid (y < 0) := hy0
     go_wp2;go_ret;exact Says.no (fun h => by have := ((back.out (HP.out.1 h).2.1).2 rfl).1; have := Hy.out; omega) Hm.out
    by_cases hy1 : regs <= y
    ·have Hy : Hid (regs <= y) := hy1
     go_wp2;go_ret;exact Says.no (fun h => by have := ((back.out (HP.out.1 h).2.1).2 rfl).2; have := Hy.out; omega) Hm.out
    have Hy : Hid (Reg regs y) := ⟨by omega, by omega⟩;go_wp2;go_roundg q
    case measure => omega
    case rel => exact ⟨k + 1, by omega, by first | rfl | simp, step.out ⟨fun h => by simp at h, fun _ => Hy.out⟩, rfl⟩
   have Hx : Hid (¬ x = 0 /\ ¬ x = 1) := ⟨hx0, hx1⟩;have hx2 : (x == 0) = false := by simp [hx0]
   have hx3 : (x == 1) = false := by simp [hx1]
   clear hx0 hx1;go_wp2;go_roundg q
   case measure => omega
   case rel => exact ⟨k + 1, by omega, by first | rfl | simp, step.out ⟨fun h => absurd h Hx.out.1, fun h => absurd h Hx.out.2⟩, rfl⟩

set_option maxRecDepth 8000 in
theorem ins_7 (ra : Option Addr) (rl rc : Nat) (ca : Option Addr) (cl cc : Nat) (a b c n regs : Int) (w : World) (P : Prop) (HP : Hid (P ↔ (True /\ (∀ j, j < 3 -> Fld regs (tri 0 0 0 j) (tri a b c j)) /\ Plc cl n))) :
  Calls Tryz.prog 49 #[.agg #[.slice ra rl rc, .slice ca cl cc], .agg #[.int .i64 7, .int .i64 a, .int .i64 b, .int .i64 c, .int .i64 n], .int .i64 regs] w (Says P w) := by
 go_enter Tryz.func49, Tryz.ntmps49;go_wp2_with (fail)
 refine (Jki _).mono ?_;rintro e w1 ⟨g, rfl, hg, m1⟩;obtain ⟨⟨c0, c1⟩, d0, d1, d2, d3, d4⟩ := J36 m1;have Hg : Hid (∀ j, j < 3 -> w1.cell? ⟨g, j, none⟩ = some (.int .i64 (tri 0 0 0 j))) := hg;have Hm1 : Hid (More w w1) := (((More.refl _).alloc _ _).alloc _ _).trans m1;clear hg m1;have HN : Hid True := trivial;go_wp2;obtain ⟨W, HW⟩ : ∃ W : World, Hid (W = w1.alloc (.cells #[.int .i64 a, .int .i64 b, .int .i64 c] 3)) := ⟨_, rfl⟩;have Hm1W : Hid (More w1 W) := HW.out ▸ (More.refl _).alloc _ _;have Hm : Hid (More w W) := Hm1.out.trans Hm1W.out;have Hf : Hid (∀ j, j < 3 -> W.cell? ⟨w1.heap.size, j, none⟩ = some (.int .i64 (tri a b c j))) := by rw [HW.out]; exact J0n (by go_simp) (by go_simp) (by go_simp)
 have Hg' : Hid (∀ j, j < 3 -> W.cell? ⟨g, j, none⟩ = some (.int .i64 (tri 0 0 0 j))) := fun j hj => Hm1W.out.cell (Hg.out j hj)
 clear Hg;replace c0 := Hm1W.out.cell c0;replace c1 := Hm1W.out.cell c1;replace d0 := Hm1W.out.cell d0;replace d1 := Hm1W.out.cell d1;replace d2 := Hm1W.out.cell d2;replace d3 := Hm1W.out.cell d3;replace d4 := Hm1W.out.cell d4;go_loopg [11] 3 (fun q i wr => ∃ k : Nat, k + q = 3 /\ i = .int .i64 k /\ (∀ j, j < k -> Fld regs (tri 0 0 0 j) (tri a b c j)) /\ wr = W)
 case atStart => exact ⟨0, by omega, rfl, fun j hj => by omega, HW.out.symm⟩
 case round =>
  obtain ⟨k, hkg, rfl, hok, rfl⟩ := hrel;have Hok : Hid (∀ j, j < k -> Fld regs (tri 0 0 0 j) (tri a b c j)) := hok;clear hok;cases gk with
  | zero =>
   obtain rfl : k = 3 := by omega
   by_cases t0 : 0 <= n
   ·by_cases t1 : n < (cl : Int)
    ·have T : Hid (0 <= n /\ n < (cl : Int)) := ⟨t0, t1⟩
     go_wp2;go_ret;exact ⟨_, rfl, ⟨fun _ => HP.out.2 ⟨HN.out, Hok.out, T.out⟩, fun _ => by first | rfl | (simp <;> omega)⟩, Hm.out⟩
    ·have T : Hid (¬ n < (cl : Int)) := t1
     go_wp2;go_ret;exact ⟨_, rfl, ⟨fun h => by first | (simp at h; done) | (simp at h; omega), fun h => by have h1 := (HP.out.1 h).2.2; have h2 := T.out; have h3 := h1.2; omega⟩, Hm.out⟩
   ·have T : Hid (¬ 0 <= n) := t0
    go_wp2;go_ret;exact ⟨_, rfl, ⟨fun h => by first | (simp at h; done) | (simp at h; omega), fun h => by have h1 := (HP.out.1 h).2.2; have h2 := T.out; have h3 := h1.1; omega⟩, Hm.out⟩
  | succ q =>
   clear d0 d1 d2 d3 d4 c0 c1;have hk : k < 3 := by omega
   have hk' : (k : Int) < 3 := by omega
   have hk0 : (0 : Int) <= (k : Int) := by omega
   have qg := Hg'.out k hk;have qf := Hf.out k hk;obtain ⟨x, hx⟩ : ∃ x, tri 0 0 0 k = x := ⟨_, rfl⟩;obtain ⟨y, hy⟩ : ∃ y, tri a b c k = y := ⟨_, rfl⟩;rw [hx] at qg;rw [hy] at qf;have HX : Hid (tri 0 0 0 k = x /\ tri a b c k = y) := ⟨hx, hy⟩;clear hx hy
   have step : Hid (Fld regs x y -> ∀ j, j < k + 1 -> Fld regs (tri 0 0 0 j) (tri a b c j)) := by
    intro h j hj;by_cases e : j = k
    ·subst e; rw [HX.out.1, HX.out.2]; exact h
    ·exact Hok.out j (by omega)
   have back : Hid ((∀ j, j < 3 -> Fld regs (tri 0 0 0 j) (tri a b c j)) -> Fld regs x y) := by
    intro h;have := h k hk;rw [HX.out.1, HX.out.2] at this;exact this
   by_cases hx0 : x = 0
   ·subst hx0
    by_cases hy0 : y = 0
    ·subst hy0
     go_wp2;go_roundg q
     case measure => omega
     case rel => exact ⟨k + 1, by omega, by first | rfl | simp, step.out ⟨fun _ => rfl, fun h => by simp at h⟩, rfl⟩
    ·have hy1 : (y != 0) = true := by simp [hy0]
     have Hy : Hid (¬ y = 0) := hy0;clear hy0;go_wp2;go_ret;exact Says.no (fun h => Hy.out ((back.out (HP.out.1 h).2.1).1 rfl)) Hm.out
   by_cases hx1 : x = 1
   ·subst hx1
    clear hx0;by_cases hy0 : y < 0
    ·have Hy : Hid (y < 0) := hy0
     go_wp2;go_ret;exact Says.no (fun h => by have := ((back.out (HP.out.1 h).2.1).2 rfl).1; have := Hy.out; omega) Hm.out
    by_cases hy1 : regs <= y
    ·have Hy : Hid (regs <= y) := hy1
     go_wp2;go_ret;exact Says.no (fun h => by have := ((back.out (HP.out.1 h).2.1).2 rfl).2; have := Hy.out; omega) Hm.out
    have Hy : Hid (Reg regs y) := ⟨by omega, by omega⟩;go_wp2;go_roundg q
    case measure => omega
    case rel => exact ⟨k + 1, by omega, by first | rfl | simp, step.out ⟨fun h => by simp at h, fun _ => Hy.out⟩, rfl⟩
   have Hx : Hid (¬ x = 0 /\ ¬ x = 1) := ⟨hx0, hx1⟩;have hx2 : (x == 0) = false := by simp [hx0]
   have hx3 : (x == 1) = false := by simp [hx1]
   clear hx0 hx1;go_wp2;go_roundg q
   case measure => omega
   case rel => exact ⟨k + 1, by omega, by first | rfl | simp, step.out ⟨fun h => absurd h Hx.out.1, fun h => absurd h Hx.out.2⟩, rfl⟩
set_option maxRecDepth 8000 in
theorem ins_8 (ra : Option Addr) (rl rc : Nat) (ca : Option Addr) (cl cc : Nat) (a b c n regs : Int) (w : World) (P : Prop) (HP : Hid (P ↔ (True /\ (∀ j, j < 3 -> Fld regs (tri 1 1 2 j) (tri a b c j)) /\ (1 <= c /\ c <= 4) /\ Plc cl n))) :
  Calls Tryz.prog 49 #[.agg #[.slice ra rl rc, .slice ca cl cc], .agg #[.int .i64 8, .int .i64 a, .int .i64 b, .int .i64 c, .int .i64 n], .int .i64 regs] w (Says P w) := by
 go_enter Tryz.func49, Tryz.ntmps49;go_wp2_with (fail)
 refine (Jkj _).mono ?_;rintro e w1 ⟨g, rfl, hg, m1⟩;obtain ⟨⟨c0, c1⟩, d0, d1, d2, d3, d4⟩ := J36 m1;have Hg : Hid (∀ j, j < 3 -> w1.cell? ⟨g, j, none⟩ = some (.int .i64 (tri 1 1 2 j))) := hg;have Hm1 : Hid (More w w1) := (((More.refl _).alloc _ _).alloc _ _).trans m1;clear hg m1;have HN : Hid True := trivial;go_wp2;obtain ⟨W, HW⟩ : ∃ W : World, Hid (W = w1.alloc (.cells #[.int .i64 a, .int .i64 b, .int .i64 c] 3)) := ⟨_, rfl⟩;have Hm1W : Hid (More w1 W) := HW.out ▸ (More.refl _).alloc _ _;have Hm : Hid (More w W) := Hm1.out.trans Hm1W.out;have Hf : Hid (∀ j, j < 3 -> W.cell? ⟨w1.heap.size, j, none⟩ = some (.int .i64 (tri a b c j))) := by rw [HW.out]; exact J0n (by go_simp) (by go_simp) (by go_simp)
 have Hg' : Hid (∀ j, j < 3 -> W.cell? ⟨g, j, none⟩ = some (.int .i64 (tri 1 1 2 j))) := fun j hj => Hm1W.out.cell (Hg.out j hj)
 clear Hg;replace c0 := Hm1W.out.cell c0;replace c1 := Hm1W.out.cell c1;replace d0 := Hm1W.out.cell d0;replace d1 := Hm1W.out.cell d1;replace d2 := Hm1W.out.cell d2;replace d3 := Hm1W.out.cell d3;replace d4 := Hm1W.out.cell d4;go_loopg [11] 3 (fun q i wr => ∃ k : Nat, k + q = 3 /\ i = .int .i64 k /\ (∀ j, j < k -> Fld regs (tri 1 1 2 j) (tri a b c j)) /\ wr = W)
 case atStart => exact ⟨0, by omega, rfl, fun j hj => by omega, HW.out.symm⟩
 case round =>
  obtain ⟨k, hkg, rfl, hok, rfl⟩ := hrel;have Hok : Hid (∀ j, j < k -> Fld regs (tri 1 1 2 j) (tri a b c j)) := hok;clear hok;cases gk with
  | zero =>
   obtain rfl : k = 3 := by omega
   by_cases t0 : 1 <= c
   rotate_left
   ·have T : Hid (¬ 1 <= c) := t0
    go_wp2;go_ret;exact ⟨_, rfl, ⟨fun h => by first | (simp at h; done) | (simp at h; omega), fun h => by have h1 := (HP.out.1 h).2.2; have h2 := T.out; have h3 := h1.1.1; omega⟩, Hm.out⟩
   by_cases t1 : c <= 4
   rotate_left
   ·have T : Hid (¬ c <= 4) := t1
    go_wp2;go_ret;exact ⟨_, rfl, ⟨fun h => by first | (simp at h; done) | (simp at h; omega), fun h => by have h1 := (HP.out.1 h).2.2; have h2 := T.out; have h3 := h1.1.2; omega⟩, Hm.out⟩
   by_cases t2 : 0 <= n
   rotate_left
   ·have T : Hid (¬ 0 <= n) := t2
    go_wp2;go_ret;exact ⟨_, rfl, ⟨fun h => by first | (simp at h; done) | (simp at h; omega), fun h => by have h1 := (HP.out.1 h).2.2; have h2 := T.out; have h3 := h1.2.1; omega⟩, Hm.out⟩
   by_cases t3 : n < (cl : Int)
   rotate_left
   ·have T : Hid (¬ n < (cl : Int)) := t3
    go_wp2;go_ret;exact ⟨_, rfl, ⟨fun h => by first | (simp at h; done) | (simp at h; omega), fun h => by have h1 := (HP.out.1 h).2.2; have h2 := T.out; have h3 := h1.2.2; omega⟩, Hm.out⟩
   have T : Hid ((1 <= c /\ c <= 4) /\ 0 <= n /\ n < (cl : Int)) := ⟨⟨t0, t1⟩, t2, t3⟩;go_wp2;go_ret;exact ⟨_, rfl, ⟨fun _ => HP.out.2 ⟨HN.out, Hok.out, T.out⟩, fun _ => by first | rfl | (simp <;> omega)⟩, Hm.out⟩
  | succ q =>
   clear d0 d1 d2 d3 d4 c0 c1;have hk : k < 3 := by omega
   have hk' : (k : Int) < 3 := by omega
   have hk0 : (0 : Int) <= (k : Int) := by omega
   have qg := Hg'.out k hk;have qf := Hf.out k hk;obtain ⟨x, hx⟩ : ∃ x, tri 1 1 2 k = x := ⟨_, rfl⟩;obtain ⟨y, hy⟩ : ∃ y, tri a b c k = y := ⟨_, rfl⟩;rw [hx] at qg;rw [hy] at qf;have HX : Hid (tri 1 1 2 k = x /\ tri a b c k = y) := ⟨hx, hy⟩;clear hx hy
   have step : Hid (Fld regs x y -> ∀ j, j < k + 1 -> Fld regs (tri 1 1 2 j) (tri a b c j)) := by
    intro h j hj;by_cases e : j = k
    ·subst e; rw [HX.out.1, HX.out.2]; exact h
    ·exact Hok.out j (by omega)
   have back : Hid ((∀ j, j < 3 -> Fld regs (tri 1 1 2 j) (tri a b c j)) -> Fld regs x y) := by
    intro h;have := h k hk;rw [HX.out.1, HX.out.2] at this;exact this
   by_cases hx0 : x = 0
   ·subst hx0
    by_cases hy0 : y = 0
    ·subst hy0
     go_wp2;go_roundg q
     case measure => omega
     case rel => exact ⟨k + 1, by omega, by first | rfl | simp, step.out ⟨fun _ => rfl, fun h => by simp at h⟩, rfl⟩
    ·have hy1 : (y != 0) = true := by simp [hy0]
     have Hy : Hid (¬ y = 0) := hy0;clear hy0;go_wp2;go_ret;exact Says.no (fun h => Hy.out ((back.out (HP.out.1 h).2.1).1 rfl)) Hm.out
   by_cases hx1 : x = 1
   ·subst hx1
    clear hx0;by_cases hy0 : y < 0
    ·have Hy : Hid (y < 0) := hy0
     go_wp2;go_ret;exact Says.no (fun h => by have := ((back.out (HP.out.1 h).2.1).2 rfl).1; have := Hy.out; omega) Hm.out
    by_cases hy1 : regs <= y
    ·have Hy : Hid (regs <= y) := hy1
     go_wp2;go_ret;exact Says.no (fun h => by have := ((back.out (HP.out.1 h).2.1).2 rfl).2; have := Hy.out; omega) Hm.out
    have Hy : Hid (Reg regs y) := ⟨by omega, by omega⟩;go_wp2;go_roundg q
    case measure => omega
    case rel => exact ⟨k + 1, by omega, by first | rfl | simp, step.out ⟨fun h => by simp at h, fun _ => Hy.out⟩, rfl⟩
   have Hx : Hid (¬ x = 0 /\ ¬ x = 1) := ⟨hx0, hx1⟩;have hx2 : (x == 0) = false := by simp [hx0]
   have hx3 : (x == 1) = false := by simp [hx1]
   clear hx0 hx1;go_wp2;go_roundg q
   case measure => omega
   case rel => exact ⟨k + 1, by omega, by first | rfl | simp, step.out ⟨fun h => absurd h Hx.out.1, fun h => absurd h Hx.out.2⟩, rfl⟩

set_option maxRecDepth 8000 in
theorem Jl5 (ra : Option Addr) (rl rc : Nat) (ca : Option Addr) (cl cc : Nat) (a b c n regs : Int) (w : World) (P : Prop) (HP : Hid (P ↔ (True /\ (∀ j, j < 3 -> Fld regs (tri 1 1 0 j) (tri a b c j)) /\ True))) :
  Calls Tryz.prog 49 #[.agg #[.slice ra rl rc, .slice ca cl cc], .agg #[.int .i64 10, .int .i64 a, .int .i64 b, .int .i64 c, .int .i64 n], .int .i64 regs] w (Says P w) := by
 go_enter Tryz.func49, Tryz.ntmps49;go_wp2_with (fail)
 refine (Ji3 _).mono ?_;rintro e w1 ⟨g, rfl, hg, m1⟩;obtain ⟨⟨c0, c1⟩, d0, d1, d2, d3, d4⟩ := J36 m1;have Hg : Hid (∀ j, j < 3 -> w1.cell? ⟨g, j, none⟩ = some (.int .i64 (tri 1 1 0 j))) := hg;have Hm1 : Hid (More w w1) := (((More.refl _).alloc _ _).alloc _ _).trans m1;clear hg m1;have HN : Hid True := trivial;go_wp2;obtain ⟨W, HW⟩ : ∃ W : World, Hid (W = w1.alloc (.cells #[.int .i64 a, .int .i64 b, .int .i64 c] 3)) := ⟨_, rfl⟩;have Hm1W : Hid (More w1 W) := HW.out ▸ (More.refl _).alloc _ _;have Hm : Hid (More w W) := Hm1.out.trans Hm1W.out;have Hf : Hid (∀ j, j < 3 -> W.cell? ⟨w1.heap.size, j, none⟩ = some (.int .i64 (tri a b c j))) := by rw [HW.out]; exact J0n (by go_simp) (by go_simp) (by go_simp)
 have Hg' : Hid (∀ j, j < 3 -> W.cell? ⟨g, j, none⟩ = some (.int .i64 (tri 1 1 0 j))) := fun j hj => Hm1W.out.cell (Hg.out j hj)
 clear Hg;replace c0 := Hm1W.out.cell c0;replace c1 := Hm1W.out.cell c1;replace d0 := Hm1W.out.cell d0;replace d1 := Hm1W.out.cell d1;replace d2 := Hm1W.out.cell d2;replace d3 := Hm1W.out.cell d3;replace d4 := Hm1W.out.cell d4;go_loopg [11] 3 (fun q i wr => ∃ k : Nat, k + q = 3 /\ i = .int .i64 k /\ (∀ j, j < k -> Fld regs (tri 1 1 0 j) (tri a b c j)) /\ wr = W)
 case atStart => exact ⟨0, by omega, rfl, fun j hj => by omega, HW.out.symm⟩
 case round =>
  obtain ⟨k, hkg, rfl, hok, rfl⟩ := hrel;have Hok : Hid (∀ j, j < k -> Fld regs (tri 1 1 0 j) (tri a b c j)) := hok;clear hok;cases gk with
  | zero =>
   obtain rfl : k = 3 := by omega
   go_wp2;go_ret;exact Says.yes (HP.out.2 ⟨HN.out, Hok.out, trivial⟩) Hm.out
  | succ q =>
   clear d0 d1 d2 d3 d4 c0 c1;have hk : k < 3 := by omega
   have hk' : (k : Int) < 3 := by omega
   have hk0 : (0 : Int) <= (k : Int) := by omega
   have qg := Hg'.out k hk;have qf := Hf.out k hk;obtain ⟨x, hx⟩ : ∃ x, tri 1 1 0 k = x := ⟨_, rfl⟩;obtain ⟨y, hy⟩ : ∃ y, tri a b c k = y := ⟨_, rfl⟩;rw [hx] at qg;rw [hy] at qf;have HX : Hid (tri 1 1 0 k = x /\ tri a b c k = y) := ⟨hx, hy⟩;clear hx hy
   have step : Hid (Fld regs x y -> ∀ j, j < k + 1 -> Fld regs (tri 1 1 0 j) (tri a b c j)) := by
    intro h j hj;by_cases e : j = k
    ·subst e; rw [HX.out.1, HX.out.2]; exact h
    ·exact Hok.out j (by omega)
   have back : Hid ((∀ j, j < 3 -> Fld regs (tri 1 1 0 j) (tri a b c j)) -> Fld regs x y) := by
    intro h;have := h k hk;rw [HX.out.1, HX.out.2] at this;exact this
   by_cases hx0 : x = 0
   ·subst hx0
    by_cases hy0 : y = 0
    ·subst hy0
     go_wp2;go_roundg q
     case measure => omega
     case rel => exact ⟨k + 1, by omega, by first | rfl | simp, step.out ⟨fun _ => rfl, fun h => by simp at h⟩, rfl⟩
    ·have hy1 : (y != 0) = true := by simp [hy0]
     have Hy : Hid (¬ y = 0) := hy0;clear hy0;go_wp2;go_ret;exact Says.no (fun h => Hy.out ((back.out (HP.out.1 h).2.1).1 rfl)) Hm.out
   by_cases hx1 : x = 1
   ·subst hx1
    clear hx0;by_cases hy0 : y < 0
    ·have Hy : Hid (y < 0) := hy0
     go_wp2;go_ret;exact Says.no (fun h => by have := ((back.out (HP.out.1 h).2.1).2 rfl).1; have := Hy.out; omega) Hm.out
    by_cases hy1 : regs <= y
    ·have Hy : Hid (regs <= y) := hy1
     go_wp2;go_ret;exact Says.no (fun h => by have := ((back.out (HP.out.1 h).2.1).2 rfl).2; have := Hy.out; omega) Hm.out
    have Hy : Hid (Reg regs y) := ⟨by omega, by omega⟩;go_wp2;go_roundg q
    case measure => omega
    case rel => exact ⟨k + 1, by omega, by first | rfl | simp, step.out ⟨fun h => by simp at h, fun _ => Hy.out⟩, rfl⟩
   have Hx : Hid (¬ x = 0 /\ ¬ x = 1) := ⟨hx0, hx1⟩;have hx2 : (x == 0) = false := by simp [hx0]
   have hx3 : (x == 1) = false := by simp [hx1]
   clear hx0 hx1;go_wp2;go_roundg q
   case measure => omega
   case rel => exact ⟨k + 1, by omega, by first | rfl | simp, step.out ⟨fun h => absurd h Hx.out.1, fun h => absurd h Hx.out.2⟩, rfl⟩

set_option maxRecDepth 8000 in
theorem Jl6 (ra : Option Addr) (rl rc : Nat) (ca : Option Addr) (cl cc : Nat) (a b c n regs : Int) (w : World) (P : Prop) (HP : Hid (P ↔ (True /\ (∀ j, j < 3 -> Fld regs (tri 1 0 0 j) (tri a b c j)) /\ 1 <= n /\ n <= 64))) :
  Calls Tryz.prog 49 #[.agg #[.slice ra rl rc, .slice ca cl cc], .agg #[.int .i64 11, .int .i64 a, .int .i64 b, .int .i64 c, .int .i64 n], .int .i64 regs] w (Says P w) := by
 go_enter Tryz.func49, Tryz.ntmps49;go_wp2_with (fail)
 refine (Ji4 _).mono ?_;rintro e w1 ⟨g, rfl, hg, m1⟩;obtain ⟨⟨c0, c1⟩, d0, d1, d2, d3, d4⟩ := J36 m1;have Hg : Hid (∀ j, j < 3 -> w1.cell? ⟨g, j, none⟩ = some (.int .i64 (tri 1 0 0 j))) := hg;have Hm1 : Hid (More w w1) := (((More.refl _).alloc _ _).alloc _ _).trans m1;clear hg m1;have HN : Hid True := trivial;go_wp2;obtain ⟨W, HW⟩ : ∃ W : World, Hid (W = w1.alloc (.cells #[.int .i64 a, .int .i64 b, .int .i64 c] 3)) := ⟨_, rfl⟩;have Hm1W : Hid (More w1 W) := HW.out ▸ (More.refl _).alloc _ _;have Hm : Hid (More w W) := Hm1.out.trans Hm1W.out;have Hf : Hid (∀ j, j < 3 -> W.cell? ⟨w1.heap.size, j, none⟩ = some (.int .i64 (tri a b c j))) := by rw [HW.out]; exact J0n (by go_simp) (by go_simp) (by go_simp)
 have Hg' : Hid (∀ j, j < 3 -> W.cell? ⟨g, j, none⟩ = some (.int .i64 (tri 1 0 0 j))) := fun j hj => Hm1W.out.cell (Hg.out j hj)
 clear Hg;replace c0 := Hm1W.out.cell c0;replace c1 := Hm1W.out.cell c1;replace d0 := Hm1W.out.cell d0;replace d1 := Hm1W.out.cell d1;replace d2 := Hm1W.out.cell d2;replace d3 := Hm1W.out.cell d3;replace d4 := Hm1W.out.cell d4;go_loopg [11] 3 (fun q i wr => ∃ k : Nat, k + q = 3 /\ i = .int .i64 k /\ (∀ j, j < k -> Fld regs (tri 1 0 0 j) (tri a b c j)) /\ wr = W)
 case atStart => exact ⟨0, by omega, rfl, fun j hj => by omega, HW.out.symm⟩
 case round =>
  obtain ⟨k, hkg, rfl, hok, rfl⟩ := hrel;have Hok : Hid (∀ j, j < k -> Fld regs (tri 1 0 0 j) (tri a b c j)) := hok;clear hok;cases gk with
  | zero =>
   obtain rfl : k = 3 := by omega
   by_cases t0 : 1 <= n
   ·by_cases t1 : n <= 64
    ·have T : Hid (1 <= n /\ n <= 64) := ⟨t0, t1⟩
     go_wp2;go_ret;exact ⟨_, rfl, ⟨fun _ => HP.out.2 ⟨HN.out, Hok.out, T.out⟩, fun _ => by first | rfl | (simp <;> omega)⟩, Hm.out⟩
    ·have T : Hid (¬ n <= 64) := t1
     go_wp2;go_ret;exact ⟨_, rfl, ⟨fun h => by first | (simp at h; done) | (simp at h; omega), fun h => by have h1 := (HP.out.1 h).2.2; have h2 := T.out; have h3 := h1.2; omega⟩, Hm.out⟩
   ·have T : Hid (¬ 1 <= n) := t0
    go_wp2;go_ret;exact ⟨_, rfl, ⟨fun h => by first | (simp at h; done) | (simp at h; omega), fun h => by have h1 := (HP.out.1 h).2.2; have h2 := T.out; have h3 := h1.1; omega⟩, Hm.out⟩
  | succ q =>
   clear d0 d1 d2 d3 d4 c0 c1;have hk : k < 3 := by omega
   have hk' : (k : Int) < 3 := by omega
   have hk0 : (0 : Int) <= (k : Int) := by omega
   have qg := Hg'.out k hk;have qf := Hf.out k hk;obtain ⟨x, hx⟩ : ∃ x, tri 1 0 0 k = x := ⟨_, rfl⟩;obtain ⟨y, hy⟩ : ∃ y, tri a b c k = y := ⟨_, rfl⟩;rw [hx] at qg;rw [hy] at qf;have HX : Hid (tri 1 0 0 k = x /\ tri a b c k = y) := ⟨hx, hy⟩;clear hx hy
   have step : Hid (Fld regs x y -> ∀ j, j < k + 1 -> Fld regs (tri 1 0 0 j) (tri a b c j)) := by
    intro h j hj;by_cases e : j = k
    ·subst e; rw [HX.out.1, HX.out.2]; exact h
    ·exact Hok.out j (by omega)
   have back : Hid ((∀ j, j < 3 -> Fld regs (tri 1 0 0 j) (tri a b c j)) -> Fld regs x y) := by
    intro h;have := h k hk;rw [HX.out.1, HX.out.2] at this;exact this
   by_cases hx0 : x = 0
   ·subst hx0
    by_cases hy0 : y = 0
    ·subst hy0
     go_wp2;go_roundg q
     case measure => omega
     case rel => exact ⟨k + 1, by omega, by first | rfl | simp, step.out ⟨fun _ => rfl, fun h => by simp at h⟩, rfl⟩
    ·have hy1 : (y != 0) = true := by simp [hy0]
     have Hy : Hid (¬ y = 0) := hy0;clear hy0;go_wp2;go_ret;exact Says.no (fun h => Hy.out ((back.out (HP.out.1 h).2.1).1 rfl)) Hm.out
   by_cases hx1 : x = 1
   ·subst hx1
    clear hx0;by_cases hy0 : y < 0
    ·have Hy : Hid (y < 0) := hy0
     go_wp2;go_ret;exact Says.no (fun h => by have := ((back.out (HP.out.1 h).2.1).2 rfl).1; have := Hy.out; omega) Hm.out
    by_cases hy1 : regs <= y
    ·have Hy : Hid (regs <= y) := hy1
     go_wp2;go_ret;exact Says.no (fun h => by have := ((back.out (HP.out.1 h).2.1).2 rfl).2; have := Hy.out; omega) Hm.out
    have Hy : Hid (Reg regs y) := ⟨by omega, by omega⟩;go_wp2;go_roundg q
    case measure => omega
    case rel => exact ⟨k + 1, by omega, by first | rfl | simp, step.out ⟨fun h => by simp at h, fun _ => Hy.out⟩, rfl⟩
   have Hx : Hid (¬ x = 0 /\ ¬ x = 1) := ⟨hx0, hx1⟩;have hx2 : (x == 0) = false := by simp [hx0]
   have hx3 : (x == 1) = false := by simp [hx1]
   clear hx0 hx1;go_wp2;go_roundg q
   case measure => omega
   case rel => exact ⟨k + 1, by omega, by first | rfl | simp, step.out ⟨fun h => absurd h Hx.out.1, fun h => absurd h Hx.out.2⟩, rfl⟩

set_option maxRecDepth 8000 in
theorem Jl8 (ra : Option Addr) (rl rc : Nat) (ca : Option Addr) (cl cc : Nat) (op : Int) (o1 : 20 < op) (o2 : op <= 30) (a b c n regs : Int) (w : World) (P : Prop) (HP : Hid (P ↔ (n = 0 /\ (∀ j, j < 3 -> Fld regs (tri 1 1 1 j) (tri a b c j)) /\ True))) :
  Calls Tryz.prog 49 #[.agg #[.slice ra rl rc, .slice ca cl cc], .agg #[.int .i64 op, .int .i64 a, .int .i64 b, .int .i64 c, .int .i64 n], .int .i64 regs] w (Says P w) := by
 go_enter Tryz.func49, Tryz.ntmps49;go_wp2_with (fail)
 refine (Ji6 op o1 o2 _).mono ?_;rintro e w1 ⟨g, rfl, hg, m1⟩;obtain ⟨⟨c0, c1⟩, d0, d1, d2, d3, d4⟩ := J36 m1;have Hg : Hid (∀ j, j < 3 -> w1.cell? ⟨g, j, none⟩ = some (.int .i64 (tri 1 1 1 j))) := hg;have Hm1 : Hid (More w w1) := (((More.refl _).alloc _ _).alloc _ _).trans m1;clear hg m1;by_cases hn0 : n = 0
 rotate_left
 ·have HN : Hid (¬ n = 0) := hn0
  have hn1 : (n != 0) = true := by simp [hn0]
  clear hn0;go_wp2;go_ret;exact Says.no (fun h => HN.out (HP.out.1 h).1) Hm1.out
 have HN : Hid (n = 0) := hn0;have hn1 : (n != 0) = false := by simp [hn0]
 clear hn0;go_wp2;obtain ⟨W, HW⟩ : ∃ W : World, Hid (W = w1.alloc (.cells #[.int .i64 a, .int .i64 b, .int .i64 c] 3)) := ⟨_, rfl⟩;have Hm1W : Hid (More w1 W) := HW.out ▸ (More.refl _).alloc _ _;have Hm : Hid (More w W) := Hm1.out.trans Hm1W.out;have Hf : Hid (∀ j, j < 3 -> W.cell? ⟨w1.heap.size, j, none⟩ = some (.int .i64 (tri a b c j))) := by rw [HW.out]; exact J0n (by go_simp) (by go_simp) (by go_simp)
 have Hg' : Hid (∀ j, j < 3 -> W.cell? ⟨g, j, none⟩ = some (.int .i64 (tri 1 1 1 j))) := fun j hj => Hm1W.out.cell (Hg.out j hj)
 clear Hg;replace c0 := Hm1W.out.cell c0;replace c1 := Hm1W.out.cell c1;replace d0 := Hm1W.out.cell d0;replace d1 := Hm1W.out.cell d1;replace d2 := Hm1W.out.cell d2;replace d3 := Hm1W.out.cell d3;replace d4 := Hm1W.out.cell d4;go_loopg [11] 3 (fun q i wr => ∃ k : Nat, k + q = 3 /\ i = .int .i64 k /\ (∀ j, j < k -> Fld regs (tri 1 1 1 j) (tri a b c j)) /\ wr = W)
 case atStart => exact ⟨0, by omega, rfl, fun j hj => by omega, HW.out.symm⟩
 case round =>
  obtain ⟨k, hkg, rfl, hok, rfl⟩ := hrel;have Hok : Hid (∀ j, j < k -> Fld regs (tri 1 1 1 j) (tri a b c j)) := hok;clear hok;cases gk with
  | zero =>
   obtain rfl : k = 3 := by omega
   go_wp2;go_ret;exact Says.yes (HP.out.2 ⟨HN.out, Hok.out, trivial⟩) Hm.out
  | succ q =>
   clear d0 d1 d2 d3 d4 c0 c1;have hk : k < 3 := by omega
   have hk' : (k : Int) < 3 := by omega
   have hk0 : (0 : Int) <= (k : Int) := by omega
   have qg := Hg'.out k hk;have qf := Hf.out k hk;obtain ⟨x, hx⟩ : ∃ x, tri 1 1 1 k = x := ⟨_, rfl⟩;obtain ⟨y, hy⟩ : ∃ y, tri a b c k = y := ⟨_, rfl⟩;rw [hx] at qg;rw [hy] at qf;have HX : Hid (tri 1 1 1 k = x /\ tri a b c k = y) := ⟨hx, hy⟩;clear hx hy
   have step : Hid (Fld regs x y -> ∀ j, j < k + 1 -> Fld regs (tri 1 1 1 j) (tri a b c j)) := by
    intro h j hj;by_cases e : j = k
    ·subst e; rw [HX.out.1, HX.out.2]; exact h
    ·exact Hok.out j (by omega)
   have back : Hid ((∀ j, j < 3 -> Fld regs (tri 1 1 1 j) (tri a b c j)) -> Fld regs x y) := by
    intro h;have := h k hk;rw [HX.out.1, HX.out.2] at this;exact this
   by_cases hx0 : x = 0
   ·subst hx0
    by_cases hy0 : y = 0
    ·subst hy0
     go_wp2;go_roundg q
     case measure => omega
     case rel => exact ⟨k + 1, by omega, by first | rfl | simp, step.out ⟨fun _ => rfl, fun h => by simp at h⟩, rfl⟩
    ·have hy1 : (y != 0) = true := by simp [hy0]
     have Hy : Hid (¬ y = 0) := hy0;clear hy0;go_wp2;go_ret;exact Says.no (fun h => Hy.out ((back.out (HP.out.1 h).2.1).1 rfl)) Hm.out
   by_cases hx1 : x = 1
   ·subst hx1
    clear hx0;by_cases hy0 : y < 0
    ·have Hy : Hid (y < 0) := hy0
     go_wp2;go_ret;exact Says.no (fun h => by have := ((back.out (HP.out.1 h).2.1).2 rfl).1; have := Hy.out; omega) Hm.out
    by_cases hy1 : regs <= y
    ·have Hy : Hid (regs <= y) := hy1
     go_wp2;go_ret;exact Says.no (fun h => by have := ((back.out (HP.out.1 h).2.1).2 rfl).2; have := Hy.out; omega) Hm.out
    have Hy : Hid (Reg regs y) := ⟨by omega, by omega⟩;go_wp2;go_roundg q
    case measure => omega
    case rel => exact ⟨k + 1, by omega, by first | rfl | simp, step.out ⟨fun h => by simp at h, fun _ => Hy.out⟩, rfl⟩
   have Hx : Hid (¬ x = 0 /\ ¬ x = 1) := ⟨hx0, hx1⟩;have hx2 : (x == 0) = false := by simp [hx0]
   have hx3 : (x == 1) = false := by simp [hx1]
   clear hx0 hx1;go_wp2;go_roundg q
   case measure => omega
   case rel => exact ⟨k + 1, by omega, by first | rfl | simp, step.out ⟨fun h => absurd h Hx.out.1, fun h => absurd h Hx.out.2⟩, rfl⟩
end
section
open Go.RowKit
set_option linter.unusedSimpArgs false
theorem J2d (regs x y z a b c : Int) : (∀ j, j < 3 -> Fld regs (tri x y z j) (tri a b c j)) ↔ Fld regs x a /\ Fld regs y b /\ Fld regs z c := by
 constructor
 ·intro h
  exact ⟨h 0 (by omega), h 1 (by omega), h 2 (by omega)⟩
 ·rintro ⟨h0, h1, h2⟩ j hj
  have : j = 0 \/ j = 1 \/ j = 2 := by omega
  rcases this with rfl | rfl | rfl
  ·exact h0
  ·exact h1
  ·exact h2
theorem fld0 (regs f : Int) : Fld regs 0 f ↔ f = 0 := by unfold Fld; simp
theorem fld1 (regs f : Int) : Fld regs 1 f ↔ Reg regs f := by unfold Fld; simp
theorem fld2 (regs f : Int) : Fld regs 2 f ↔ True := by unfold Fld; simp

set_option maxRecDepth 8000 in
theorem Jgl (ra : Option Addr) (rl rc : Nat) (ca : Option Addr) (cl cc : Nat) (op a b c n regs : Int) (h1 : ¬ op = 1) (h2 : ¬ op = 2) (h3 : ¬ op = 3) (h4 : ¬ op = 4) (h5 : ¬ op = 5) (h6 : ¬ op = 6) (h7 : ¬ op = 7) (h8 : ¬ op = 8) (h9 : ¬ op = 9) (h10 : ¬ op = 10) (h11 : ¬ op = 11) (h12 : ¬ op = 12) (h : ¬ (20 < op /\ op <= 30)) (w : World) :
  Calls Tryz.prog 49 #[.agg #[.slice ra rl rc, .slice ca cl cc], .agg #[.int .i64 op, .int .i64 a, .int .i64 b, .int .i64 c, .int .i64 n], .int .i64 regs] w fun e w' => e = .returned (.bool false) /\ More w w' := by
 have Hs : Hid (∀ w : World, Calls Tryz.prog 66 #[.int .i64 op] w fun e w' => e = .returned (.tuple #[.slice none 0 0, .bool false, .bool false]) /\ w' = w) := fun w => Jd5 op h1 h2 h3 h4 h5 h6 h7 h8 h9 h10 h11 h12 h w
 clear h1 h2 h3 h4 h5 h6 h7 h8 h9 h10 h11 h12 h;go_enter Tryz.func49, Tryz.ntmps49;go_wp2_with (fail)
 refine (Hs.out _).mono ?_;rintro e w1 ⟨rfl, rfl⟩;go_wp2;go_ret;exact ⟨rfl, ((More.refl _).alloc _ _).alloc _ _⟩

theorem Jk8 (ra : Option Addr) (rl rc : Nat) (ca : Option Addr) (cl cc : Nat) (op a b c n regs : Int) (w : World) (rb ro : Nat) (log : Nat -> Int) (sec : Nat -> Bool) (hra : 0 < rl -> ra = some ⟨rb, ro, none⟩) (hr : RegsAt w rb ro rl log sec) (hok : J0g rl log) :
  Calls Tryz.prog 49 #[.agg #[.slice ra rl rc, .slice ca cl cc], .agg #[.int .i64 op, .int .i64 a, .int .i64 b, .int .i64 c, .int .i64 n], .int .i64 regs] w (Says (InsOk rl log cl regs ⟨op, a, b, c, n⟩) w) := by
 by_cases h1 : op = 1
 ·subst h1
  refine ins_1 ra rl rc ca cl cc a b c n regs w _ ?_;show _ ↔ _;rw [J2d]; simp only [fld0, fld1, fld2];unfold InsOk;simp [and_assoc, and_comm, and_left_comm]
 by_cases h2 : op = 2
 ·subst h2
  refine ins_2 ra rl rc ca cl cc a b c n regs w _ ?_;show _ ↔ _;rw [J2d]; simp only [fld0, fld1, fld2];unfold InsOk;simp [and_assoc, and_comm, and_left_comm]
 by_cases h3 : op = 3
 ·subst h3
  refine ins_3 ra rl rc ca cl cc a b c n regs w _ ?_;show _ ↔ _;rw [J2d]; simp only [fld0, fld1, fld2];unfold InsOk;simp [and_assoc, and_comm, and_left_comm]
 by_cases h4 : op = 4
 ·subst h4
  refine ins_4 ra rl rc ca cl cc a b c n regs w _ ?_;show _ ↔ _;rw [J2d]; simp only [fld0, fld1, fld2];unfold InsOk;simp [and_assoc, and_comm, and_left_comm]
 by_cases h5 : op = 5
 ·subst h5
  refine ins_5 ra rl rc ca cl cc a b c n regs w rb ro log sec hra hr hok _ ?_;show _ ↔ _;rw [J2d]; simp only [fld0, fld1, fld2];unfold InsOk;simp [and_assoc, and_comm, and_left_comm]
 by_cases h6 : op = 6
 ·subst h6
  refine ins_6 ra rl rc ca cl cc a b c n regs w rb ro log sec hra hr hok _ ?_;show _ ↔ _;rw [J2d]; simp only [fld0, fld1, fld2];unfold InsOk;simp [and_assoc, and_comm, and_left_comm]
 by_cases h7 : op = 7
 ·subst h7
  refine ins_7 ra rl rc ca cl cc a b c n regs w _ ?_;show _ ↔ _;rw [J2d]; simp only [fld0, fld1, fld2];unfold InsOk;simp [and_assoc, and_comm, and_left_comm]
 by_cases h8 : op = 8
 ·subst h8
  refine ins_8 ra rl rc ca cl cc a b c n regs w _ ?_;show _ ↔ _;rw [J2d]; simp only [fld0, fld1, fld2];unfold InsOk;simp [and_assoc, and_comm, and_left_comm]
 by_cases h9 : op = 9
 ·subst h9
  refine ins_9 ra rl rc ca cl cc a b c n regs w _ ?_;show _ ↔ _;rw [J2d]; simp only [fld0, fld1, fld2];unfold InsOk;simp [and_assoc, and_comm, and_left_comm]
 by_cases h10 : op = 10
 ·subst h10
  refine Jl5 ra rl rc ca cl cc a b c n regs w _ ?_;show _ ↔ _;rw [J2d]; simp only [fld0, fld1, fld2];unfold InsOk;simp [and_assoc, and_comm, and_left_comm]
 by_cases h11 : op = 11
 ·subst h11
  refine Jl6 ra rl rc ca cl cc a b c n regs w _ ?_;show _ ↔ _;rw [J2d]; simp only [fld0, fld1, fld2];unfold InsOk;simp [and_assoc, and_comm, and_left_comm]
 by_cases h12 : op = 12
 ·subst h12
  refine Jl7 ra rl rc ca cl cc a b c n regs w _ ?_;show _ ↔ _;rw [J2d]; simp only [fld0, fld1, fld2];unfold InsOk;simp [and_assoc, and_comm, and_left_comm]
 by_cases ho : 20 < op /\ op <= 30
 ·refine Jl8 ra rl rc ca cl cc op ho.1 ho.2 a b c n regs w _ ?_
  show _ ↔ _;rw [J2d]; simp only [fld1];unfold InsOk;rw [if_neg h1, if_neg h2, if_neg h3, if_neg h4, if_neg h5, if_neg h6, if_neg h7, if_neg h8, if_neg h9, if_neg h10, if_neg h11, if_neg h12];constructor
  ·exact fun h => ⟨h.2.2.2.2, ⟨h.2.1, h.2.2.1, h.2.2.2.1⟩, trivial⟩
  ·exact fun h => ⟨⟨by have := ho.1; show (21 : Int) <= op; omega, ho.2⟩, h.2.1.1, h.2.1.2.1, h.2.1.2.2, h.1⟩
 refine (Jgl ra rl rc ca cl cc op a b c n regs h1 h2 h3 h4 h5 h6 h7 h8 h9 h10 h11 h12 ho w).mono ?_;rintro e w' ⟨rfl, m⟩;refine Says.no (fun h => ?_) m;unfold InsOk at h;rw [if_neg h1, if_neg h2, if_neg h3, if_neg h4, if_neg h5, if_neg h6, if_neg h7, if_neg h8, if_neg h9, if_neg h10, if_neg h11, if_neg h12] at h;exact ho ⟨by have := h.1.1; dsimp only at this; omega, h.1.2⟩

theorem Jit (ra : Option Addr) (rl rc : Nat) (ca : Option Addr) (cl cc : Nat) (code regs : Int) (rb ro cb co : Nat) (log : Nat -> Int) (sec : Nat -> Bool) (ins : Nat -> Ins) (w : World) (most : Nat) (hcode : code = most) (hmost : most <= 8000)
  (hra : 0 < rl -> ra = some ⟨rb, ro, none⟩) (hr : RegsAt w rb ro rl log sec) (hca : 0 < cl -> ca = some ⟨cb, co, none⟩) (hc : CodeAt w cb co cl ins) :
  Calls Tryz.prog 28 #[.agg #[.slice ra rl rc, .slice ca cl cc], .int .i64 code, .int .i64 regs] w (Says (J0g rl log /\ J7l rl log cl ins most regs) w) := by
 have Hcd : Hid (code = most /\ most <= 8000) := ⟨hcode, hmost⟩;have Hr : Hid ((0 < rl -> ra = some ⟨rb, ro, none⟩) /\ RegsAt w rb ro rl log sec) := ⟨hra, hr⟩;have Hc : Hid ((0 < cl -> ca = some ⟨cb, co, none⟩) /\ CodeAt w cb co cl ins) := ⟨hca, hc⟩;obtain ⟨Pr, HP⟩ : ∃ Pr : Prop, Hid (Pr ↔ (J0g rl log /\ J7l rl log cl ins most regs)) := ⟨_, Iff.rfl⟩;rw [<- propext HP.out];clear hcode hmost hra hr hca hc;go_enter Tryz.func28, Tryz.ntmps28;go_wp2_with (fail)
 refine (J73 ra rl rc ca cl cc rb ro log sec _ Hr.out.1 (Hr.out.2.more ((More.refl _).alloc _ _))).mono ?_;rintro e w1 ⟨r, rfl, h, m1⟩;have e0 : w1.cell? ⟨w.heap.size, 0, none⟩ = some (.slice ra rl rc) := m1.cell (by go_simp);have e1 : w1.cell? ⟨w.heap.size, 1, none⟩ = some (.slice ca cl cc) := m1.cell (by go_simp);have Hm1 : Hid (More w w1) := ((More.refl _).alloc _ _).trans m1;clear m1;cases r with
 | false =>
  have HA : Hid (¬ J0g rl log) := fun k => by simpa using h.2 k
  clear h;go_wp2;go_ret;exact Says.no (fun h => HA.out (HP.out.1 h).1) Hm1.out
 | true =>
  have HA : Hid (J0g rl log) := h.1 rfl;clear h;by_cases h1 : (cl : Int) < 1
  ·have T : Hid ((cl : Int) < 1) := h1
   go_wp2;go_ret;exact Says.no (fun h => by have := (HP.out.1 h).2.1; have := T.out; omega) Hm1.out
  by_cases h2 : code < (cl : Int)
  ·have T : Hid (code < (cl : Int)) := h2
   go_wp2;go_ret;exact Says.no (fun h => by have := (HP.out.1 h).2.2.1; have := Hcd.out.1; have := T.out; omega) Hm1.out
  have Hl : Hid (1 <= cl /\ cl <= most) := ⟨by omega, by have := Hcd.out.1; omega⟩;have He : Hid (w1.cell? ⟨w.heap.size, 0, none⟩ = some (.slice ra rl rc) /\ w1.cell? ⟨w.heap.size, 1, none⟩ = some (.slice ca cl cc)) := ⟨e0, e1⟩;go_wp2;clear e0 e1;go_loopg [7] cl (fun g i wr => ∃ k : Nat, k + g = cl /\ i = .int .i64 k /\ (∀ j, j < k -> InsOk rl log cl regs (ins j)) /\ More w wr /\ wr.cell? ⟨w.heap.size, 0, none⟩ = some (.slice ra rl rc) /\ wr.cell? ⟨w.heap.size, 1, none⟩ = some (.slice ca cl cc))
  case atStart => exact ⟨0, by omega, rfl, fun j hj => by omega, Hm1.out, He.out.1, He.out.2⟩
  case round =>
   obtain ⟨k, hkg, rfl, hin, m, e0, e1⟩ := hrel;have Hm : Hid (More w wr /\ ∀ j, j < k -> InsOk rl log cl regs (ins j)) := ⟨m, hin⟩;clear m hin;cases gk with
   | zero =>
    obtain rfl : k = cl := by omega
    go_wp2;go_ret;exact Says.yes (HP.out.2 ⟨HA.out, Hl.out.1, Hl.out.2, Hm.out.2⟩) Hm.out.1
   | succ g =>
    have hk : k < cl := by omega
    have hk' : (k : Int) < (cl : Int) := by omega
    have hk0 : (0 : Int) <= (k : Int) := by omega
    obtain rfl := Hc.out.1 (by omega);have hcell := (Hc.out.2.more Hm.out.1) k hk;cases hI : ins k with
    | mk op a b c n =>
    rw [hI] at hcell;have HI : Hid (ins k = ⟨op, a, b, c, n⟩) := hI;clear hI;obtain ⟨q0, q1, q2, q3, q4⟩ := hcell;obtain ⟨S, HS⟩ : ∃ S : World -> Prop, Hid (∀ w', S w' ↔ More wr w') := ⟨fun w' => More wr w', fun _ => Iff.rfl⟩;have k0 : ∀ i : { w' // S w' }, i.val.cell? ⟨w.heap.size, 0, none⟩ = some (.slice ra rl rc) := fun i => ((HS.out _).1 i.property).cell e0
    have k1 : ∀ i : { w' // S w' }, i.val.cell? ⟨w.heap.size, 1, none⟩ = some (.slice (some ⟨cb, co, none⟩) cl cc) := fun i => ((HS.out _).1 i.property).cell e1
    have d0 : ∀ i : { w' // S w' }, i.val.cell? ⟨cb, co + k * 5, none⟩ = some (.int .i64 op) := fun i => ((HS.out _).1 i.property).cell q0
    have d1 : ∀ i : { w' // S w' }, i.val.cell? ⟨cb, co + k * 5 + 1, none⟩ = some (.int .i64 a) := fun i => ((HS.out _).1 i.property).cell q1
    have d2 : ∀ i : { w' // S w' }, i.val.cell? ⟨cb, co + k * 5 + 2, none⟩ = some (.int .i64 b) := fun i => ((HS.out _).1 i.property).cell q2
    have d3 : ∀ i : { w' // S w' }, i.val.cell? ⟨cb, co + k * 5 + 3, none⟩ = some (.int .i64 c) := fun i => ((HS.out _).1 i.property).cell q3
    have d4 : ∀ i : { w' // S w' }, i.val.cell? ⟨cb, co + k * 5 + 4, none⟩ = some (.int .i64 n) := fun i => ((HS.out _).1 i.property).cell q4
    have hne : Nonempty { w' // S w' } := ⟨⟨wr, (HS.out _).2 (More.refl _)⟩⟩;go_wp2_with (fail)
    refine J01 (S := S) [(0, true), (1, true), (2, true), (3, true), (4, true), (5, true), (6, true), (7, false), (8, true)] (by kernel_rfl) (by kernel_rfl) (by kernel_rfl) ((HS.out _).2 (More.refl _).drew) ?_
    iterate 7 (refine J00 rfl (by kernel_rfl) (fun K hK => ?_); go_simp; refine hK _ _ ?_; clear hK K)
    refine J02 rfl (by kernel_rfl) (fun K hK => ?_); go_simp;refine (Jk8 ra rl rc _ cl cc op a b c n regs _ rb ro log sec Hr.out.1 (Hr.out.2.more (Hm.out.1.trans (More.refl _).drew)) HA.out).mono ?_;rintro e w2 ⟨r2, rfl, hr2, m2⟩;have Hm2 : Hid (More wr w2) := (More.refl _).drew.trans m2;clear m2;have e0' := Hm2.out.cell e0;have e1' := Hm2.out.cell e1;clear e0 e1;cases r2 with
    | false =>
     have HF : Hid (¬ InsOk rl log cl regs ⟨op, a, b, c, n⟩) := fun h => by simpa using hr2.2 h
     clear hr2
     go_simp
     refine hK _ _ ((HS.out _).2 Hm2.out) ?_; clear hK K;refine J00 rfl (by kernel_rfl) (fun K hK => ?_); go_simp; refine hK _ _ ?_; clear hK K;refine J04 ?_;clear k0 k1 d0 d1 d2 d3 d4 hne q0 q1 q2 q3 q4;go_wp2;go_ret;exact Says.no (fun h => HF.out (HI.out ▸ (HP.out.1 h).2.2.2 k hk)) (Hm.out.1.trans Hm2.out)
    | true =>
     have HF : Hid (InsOk rl log cl regs ⟨op, a, b, c, n⟩) := hr2.1 rfl;clear hr2
     go_simp
     refine hK _ _ ((HS.out _).2 Hm2.out) ?_; clear hK K;refine J00 rfl (by kernel_rfl) (fun K hK => ?_); go_simp; refine hK _ _ ?_; clear hK K;refine J04 ?_;clear k0 k1 d0 d1 d2 d3 d4 hne q0 q1 q2 q3 q4;go_wp2;go_roundg g
     case measure => omega
     case rel =>
      refine ⟨k + 1, by omega, by first | rfl | (simp; unfold wrap64; have := Hl.out.2; have := Hcd.out.2; omega), fun j hj => ?_, Hm.out.1.trans Hm2.out, e0', e1'⟩;by_cases e : j = k
      ·subst e; rw [HI.out]; exact HF.out
      ·exact Hm.out.2 j (by omega)

theorem Jeo (p : Prg) (l : Loc) (w : World) (h : PIn w p l) :
  Calls Tryz.prog 12 #[.agg #[.slice l.ra p.rl l.rc, .slice l.ca p.cl l.cc]] w (Says (p.Ok 200 8) w) := by
 have H : Hid (PIn w p l) := h;clear h;go_enter Tryz.func12, Tryz.ntmps12;go_wp2_with (fail)
 have m0 : More w (w.alloc (.cells #[.slice l.ra p.rl l.rc, .slice l.ca p.cl l.cc] 25)) := (More.refl _).alloc _ _;refine (Jit l.ra p.rl l.rc l.ca p.cl l.cc 200 8 l.rb l.ro l.cb l.co p.log p.sec p.ins _ 200 rfl (by omega) H.out.hr (H.out.regs.more m0) H.out.hc (H.out.code.more m0)).mono ?_;rintro e w1 ⟨r, rfl, h1, m1⟩;have H1 : Hid ((r = true ↔ p.Ok 200 8) /\ More w w1) := ⟨h1, m0.trans m1⟩;clear h1 m1 m0;go_wp2;go_ret;exact ⟨r, rfl, H1.out.1, H1.out.2⟩

theorem Jhp (p : Prg) (l : Loc) (w : World) (h : PIn w p l) :
  Calls Tryz.prog 42 #[.agg #[.slice l.ra p.rl l.rc, .slice l.ca p.cl l.cc]] w (Says (p.Ok 8000 10) w) := by
 have H : Hid (PIn w p l) := h;clear h;go_enter Tryz.func42, Tryz.ntmps42;go_wp2_with (fail)
 have m0 : More w (w.alloc (.cells #[.slice l.ra p.rl l.rc, .slice l.ca p.cl l.cc] 25)) := (More.refl _).alloc _ _;refine (Jit l.ra p.rl l.rc l.ca p.cl l.cc 8000 10 l.rb l.ro l.cb l.co p.log p.sec p.ins _ 8000 rfl (by omega) H.out.hr (H.out.regs.more m0) H.out.hc (H.out.code.more m0)).mono ?_;rintro e w1 ⟨r, rfl, h1, m1⟩;have H1 : Hid ((r = true ↔ p.Ok 8000 10) /\ More w w1) := ⟨h1, m0.trans m1⟩;clear h1 m1 m0;go_wp2;go_ret;exact ⟨r, rfl, H1.out.1, H1.out.2⟩

theorem Jho (ra : Option Addr) (rl rc : Nat) (ca : Option Addr) (cl cc : Nat) (ma : Option Addr) (ml mc : Nat) (rb ro mb mo : Nat) (log : Nat -> Int) (sec : Nat -> Bool) (A : Nat -> Option Addr) (L C : Nat -> Nat) (w : World)
  (hra : 0 < rl -> ra = some ⟨rb, ro, none⟩) (hr : RegsAt w rb ro rl log sec) (hma : 0 < ml -> ma = some ⟨mb, mo, none⟩) (hm : ListsAt w mb mo ml A L C) :
  Calls Tryz.prog 5 #[.agg #[.slice ra rl rc, .slice ca cl cc], .slice ma ml mc] w (Says (J1t rl log ml L) w) := by
 have Hr : Hid ((0 < rl -> ra = some ⟨rb, ro, none⟩) /\ RegsAt w rb ro rl log sec) := ⟨hra, hr⟩;have Hl : Hid ((0 < ml -> ma = some ⟨mb, mo, none⟩) /\ ListsAt w mb mo ml A L C) := ⟨hma, hm⟩;obtain ⟨Pr, HP⟩ : ∃ Pr : Prop, Hid (Pr ↔ J1t rl log ml L) := ⟨_, Iff.rfl⟩;rw [<- propext HP.out];clear hra hr hma hm;go_enter Tryz.func5, Tryz.ntmps5;go_wp2_with (fail)
 refine (J73 ra rl rc ca cl cc rb ro log sec _ Hr.out.1 (Hr.out.2.more ((More.refl _).alloc _ _))).mono ?_;rintro e w1 ⟨r, rfl, h, m1⟩;have e0 : w1.cell? ⟨w.heap.size, 0, none⟩ = some (.slice ra rl rc) := m1.cell (by go_simp);have e1 : w1.cell? ⟨w.heap.size, 1, none⟩ = some (.slice ca cl cc) := m1.cell (by go_simp);have Hm1 : Hid (More w w1) := ((More.refl _).alloc _ _).trans m1;clear m1;cases r with
 | false =>
  have HA : Hid (¬ J0g rl log) := fun k => by simpa using h.2 k
  clear h;go_wp2;go_ret;exact Says.no (fun h => HA.out (HP.out.1 h).1) Hm1.out
 | true =>
  have HA : Hid (J0g rl log) := h.1 rfl;clear h;by_cases hne : (ml : Int) = (rl : Int)
  ·have Hml : Hid (ml = rl) := (by omega : ml = rl)
   have h6 : ml <= 6 := by have := HA.out.1; have := Hml.out; omega
   have hne' : ((ml : Int) != (rl : Int)) = false := by simp [hne]
   have Hle : Hid ((ml : Int) <= (rl : Int)) := by rw [hne]; exact Int.le_refl _
   clear hne;have He : Hid (w1.cell? ⟨w.heap.size, 0, none⟩ = some (.slice ra rl rc) /\ w1.cell? ⟨w.heap.size, 1, none⟩ = some (.slice ca cl cc)) := ⟨e0, e1⟩;go_wp2;clear e0 e1 hne';go_loopg [5] ml (fun g i wr => ∃ k : Nat, k + g = ml /\ i = .int .i64 k /\ (∀ j, j < k -> (L j : Int) = J0c (log j)) /\ More w wr /\ wr.cell? ⟨w.heap.size, 0, none⟩ = some (.slice ra rl rc) /\ wr.cell? ⟨w.heap.size, 1, none⟩ = some (.slice ca cl cc))
   case atStart => exact ⟨0, by omega, rfl, fun j hj => by omega, Hm1.out, He.out.1, He.out.2⟩
   case round =>
    obtain ⟨k, hkg, rfl, hin, m, e0, e1⟩ := hrel;have Hm : Hid (More w wr /\ ∀ j, j < k -> (L j : Int) = J0c (log j)) := ⟨m, hin⟩;clear m hin;cases gk with
    | zero =>
     obtain rfl : k = ml := by omega
     go_wp2;go_ret;exact Says.yes (HP.out.2 ⟨HA.out, Hml.out, fun i hi => Hm.out.2 i (by have := Hml.out; omega)⟩) Hm.out.1
    | succ g =>
     have hk : k < ml := by omega
     have hkr : k < rl := by have := Hml.out; omega
     have hk' : (k : Int) < (ml : Int) := by omega
     have hkr' : (k : Int) < (rl : Int) := by omega
     have hk0 : (0 : Int) <= (k : Int) := by omega
     obtain rfl := Hr.out.1 (by omega);obtain rfl := Hl.out.1 (by omega);have q0 := ((Hr.out.2.more Hm.out.1) k hkr).1;have q1 := ((Hr.out.2.more Hm.out.1) k hkr).2;have Hlog : Hid (0 <= log k /\ log k <= 6) := HA.out.2 k hkr;obtain ⟨lk, hlk⟩ : ∃ x, log k = x := ⟨_, rfl⟩;rw [hlk] at q0 Hlog;have Hlk : Hid (log k = lk) := hlk;clear hlk;go_wp2_with (fail)
     obtain ⟨nw, hnw⟩ : ∃ x, J0c lk = x := ⟨_, rfl⟩;refine (J3a lk Hlog.out.1 Hlog.out.2 (sec k) _).mono ?_;rw [hnw];have Hnw : Hid (J0c (log k) = nw) := by rw [Hlk.out]; exact hnw
     clear hnw q0 q1;rintro e w2 ⟨rfl, m2⟩;have e0' := m2.cell e0;have e1' := m2.cell e1;have Hm2 : Hid (More w w2) := Hm.out.1.trans m2;clear m2 e0 e1;have q2 := (Hl.out.2.more Hm2.out) k hk;by_cases hq : (L k : Int) = nw
     ·have Hq : Hid ((L k : Int) = nw) := hq
      have heq : ((L k : Int) != nw) = false := by simp [hq]
      clear hq;go_wp2;go_roundg g
      case measure => omega
      case rel =>
       refine ⟨k + 1, by omega, by first | rfl | (simp; unfold wrap64; omega), fun j hj => ?_, Hm2.out, e0', e1'⟩;by_cases e : j = k
       ·subst e; rw [Hq.out, Hnw.out]
       ·exact Hm.out.2 j (by omega)
     ·have Hq : Hid (¬ (L k : Int) = nw) := hq
      have heq' : ((L k : Int) != nw) = true := by simp [hq]
      clear hq;go_wp2;go_ret;exact Says.no (fun h => Hq.out (by rw [<- Hnw.out]; exact (HP.out.1 h).2.2 k hkr)) Hm2.out
  ·have T : Hid (¬ ml = rl) := fun e => hne (by rw [e])
   have hne' : ((ml : Int) != (rl : Int)) = true := by simp; omega
   clear hne;go_wp2;go_ret;exact Says.no (fun h => T.out (HP.out.1 h).2.1) Hm1.out
end
section
open Go.ChangeShapes Go.WideShapes Go.ChangeAt Go.RowKit Go.Deep Go.Joins
set_option maxRecDepth 8000
theorem Jj3 : Tryz.prog.cellsOf 62 = 2 := by kernel_rfl
theorem Jj2 : Tryz.prog.cellsOf 53 = 5 := by kernel_rfl
theorem Jj1 : Tryz.prog.cellsOf 25 = 2 := by kernel_rfl
theorem Jj4 : Tryz.prog.cellsOf 65 = 1 := by kernel_rfl
theorem Jih : Tryz.prog.cellsOf 2 = 1 := by kernel_rfl
theorem Jii : Tryz.prog.cellsOf 3 = 1 := by kernel_rfl
theorem Jkz : Tryz.prog.cellsOf 4 = 1 := by kernel_rfl

def I64 (x : Int) : Prop := -9223372036854775808 <= x /\ x <= 9223372036854775807
def Ins.fits (i : Ins) : Prop := I64 i.op /\ I64 i.a /\ I64 i.b /\ I64 i.c /\ I64 i.n

structure Prg.Fit (p : Prg) : Prop where
 rl : p.rl <= maxLen
 cl : p.cl <= maxLen
 log : ∀ i, i < p.rl -> I64 (p.log i)
 ins : ∀ i, i < p.cl -> (p.ins i).fits

section
variable {H : Type} {enc : TypeId × Value -> H} {W : World} {base : Nat} {held : Bool}

theorem J23 {a : Addr} {v : Value} (h : W.cell? a = some v) : a = ⟨a.block, a.off, none⟩ := by
 have := World.cell?_spot h;cases a
 simp_all

theorem Jea {fuel : Nat} {cs : List Value} {x : DataW H × List MemPlace} (h : DataW.trod enc Tryz.prog W base (fun _ => true) held fuel 22 cs = some x) :
  ∃ (ra : Option Addr) (rb ro rl rc : Nat) (log : Nat -> Int) (sec : Nat -> Bool), cs = [.slice ra rl rc] /\ (0 < rl -> ra = some ⟨rb, ro, none⟩) /\ RegsAt W rb ro rl log sec /\ rl <= rc /\ rc <= maxLen /\ ∀ i, i < rl -> I64 (log i) := by
 rcases open_slice Tryz.underlying22 h with ⟨rfl, _⟩ | ⟨a, len, cap, m, n, D, Pl, rfl, hb, hl, hm, hmm, rfl, hx⟩
 ·exact ⟨none, 0, 0, 0, 0, fun _ => 0, fun _ => false, rfl, fun h => by omega, fun i hi => by omega, Nat.le_refl _, Nat.zero_le _, fun i hi => by omega⟩
 have hlm : len <= m := by rw [hmm]; simpa using hl
 have each : ∀ i, i < len -> ∃ q : Int × Bool, W.cell? (a.add (i * 2)) = some (.int .i64 q.1) /\ W.cell? (a.add (i * 2 + 1)) = some (.bool q.2) /\ I64 q.1 := by
  intro i hi;obtain ⟨cs', h1, h2⟩ := hx i (by omega);rw [Jj3] at h1;obtain ⟨_, hlen, hcell⟩ := World.cells?_some h1;obtain ⟨xs, k, hk, hxy, _, hxl, hf⟩ := DataW.trod_struct Tryz.underlying62 h2
  match cs', hlen with
  | [v0, v1], _ =>
   have g0 := hf 0 _ rfl;have g1 := hf 1 _ rfl;have e0 := hcell 0 (by omega);have e1 := hcell 1 (by omega);rw [add_add] at e0 e1;simp [Jii, Jkz] at g0 g1
   match xs, hxl with
   | [y0, y1], _ =>
    simp at g0 g1;obtain ⟨z, hz, _, wz⟩ := DataW.trod_int Tryz.underlying3 g0;obtain ⟨s, hs, _⟩ := DataW.trod_bool Tryz.underlying4 g1;simp at hz hs e0 e1;subst hz hs;exact ⟨(z, s), e0, e1, bounds_i64 wz⟩
 obtain ⟨q, hq⟩ := choose_lt each;refine ⟨some a, a.block, a.off, len, cap, fun i => (q i).1, fun i => (q i).2, rfl, fun h0 => ?_, fun i hi => ?_, hl, hm, fun i hi => (hq i hi).2.2⟩
 ·have h1 := (hq 0 h0).1
  simp [Addr.add] at h1;rw [<- J23 h1]
 ·have h1 := (hq 0 (by omega)).1
  simp [Addr.add] at h1;have ha := J23 h1;obtain ⟨b, o, s⟩ := a;simp at ha;subst ha;have := hq i hi;rw [add_plain, add_plain] at this;exact ⟨by simpa using this.1, by have := this.2.1; simpa [Nat.add_assoc] using this⟩

theorem Je8 {fuel : Nat} {cs : List Value} {x : DataW H × List MemPlace} (h : DataW.trod enc Tryz.prog W base (fun _ => true) held fuel 23 cs = some x) :
  ∃ (ca : Option Addr) (cb co cl cc : Nat) (ins : Nat -> Ins), cs = [.slice ca cl cc] /\ (0 < cl -> ca = some ⟨cb, co, none⟩) /\ CodeAt W cb co cl ins /\ cl <= cc /\ cc <= maxLen /\ ∀ i, i < cl -> (ins i).fits := by
 rcases open_slice Tryz.underlying23 h with ⟨rfl, _⟩ | ⟨a, len, cap, m, n, D, Pl, rfl, hb, hl, hm, hmm, rfl, hx⟩
 ·exact ⟨none, 0, 0, 0, 0, fun _ => ⟨0, 0, 0, 0, 0⟩, rfl, fun h => by omega, fun i hi => by omega, Nat.le_refl _, Nat.zero_le _, fun i hi => by omega⟩
 have hlm : len <= m := by rw [hmm]; simpa using hl
 have each : ∀ i, i < len -> ∃ q : Int × Int × Int × Int × Int, W.cell? (a.add (i * 5)) = some (.int .i64 q.1) /\ W.cell? (a.add (i * 5 + 1)) = some (.int .i64 q.2.1) /\ W.cell? (a.add (i * 5 + 2)) = some (.int .i64 q.2.2.1) /\
   W.cell? (a.add (i * 5 + 3)) = some (.int .i64 q.2.2.2.1) /\ W.cell? (a.add (i * 5 + 4)) = some (.int .i64 q.2.2.2.2) /\ I64 q.1 /\ I64 q.2.1 /\ I64 q.2.2.1 /\ I64 q.2.2.2.1 /\ I64 q.2.2.2.2 := by
  intro i hi;obtain ⟨cs', h1, h2⟩ := hx i (by omega);rw [Jj2] at h1;obtain ⟨_, hlen, hcell⟩ := World.cells?_some h1;obtain ⟨xs, k, hk, hxy, _, hxl, hf⟩ := DataW.trod_struct Tryz.underlying53 h2
  match cs', hlen with
  | [v0, v1, v2, v3, v4], _ =>
   have g0 := hf 0 _ rfl;have g1 := hf 1 _ rfl;have g2 := hf 2 _ rfl;have g3 := hf 3 _ rfl;have g4 := hf 4 _ rfl;have e0 := hcell 0 (by omega);have e1 := hcell 1 (by omega);have e2 := hcell 2 (by omega);have e3 := hcell 3 (by omega);have e4 := hcell 4 (by omega);rw [add_add] at e0 e1 e2 e3 e4;simp [Jii, Jih] at g0 g1 g2 g3 g4
   match xs, hxl with
   | [y0, y1, y2, y3, y4], _ =>
    simp at g0 g1 g2 g3 g4;obtain ⟨z0, hz0, _, wz0⟩ := DataW.trod_int Tryz.underlying3 g0;obtain ⟨z1, hz1, _, wz1⟩ := DataW.trod_int Tryz.underlying3 g1;obtain ⟨z2, hz2, _, wz2⟩ := DataW.trod_int Tryz.underlying3 g2;obtain ⟨z3, hz3, _, wz3⟩ := DataW.trod_int Tryz.underlying3 g3;obtain ⟨z4, hz4, _, wz4⟩ := DataW.trod_int Tryz.underlying2 g4;simp at hz0 hz1 hz2 hz3 hz4 e0 e1 e2 e3 e4;subst hz0 hz1 hz2 hz3 hz4;exact ⟨(z0, z1, z2, z3, z4), e0, e1, e2, e3, e4, bounds_i64 wz0, bounds_i64 wz1, bounds_i64 wz2, bounds_i64 wz3, bounds_i64 wz4⟩
 obtain ⟨q, hq⟩ := choose_lt each;refine ⟨some a, a.block, a.off, len, cap, fun i => ⟨(q i).1, (q i).2.1, (q i).2.2.1, (q i).2.2.2.1, (q i).2.2.2.2⟩, rfl, fun h0 => ?_, fun i hi => ?_, hl, hm, fun i hi => (hq i hi).2.2.2.2.2⟩
 ·have h1 := (hq 0 h0).1
  simp [Addr.add] at h1;rw [<- J23 h1]
 ·have h1 := (hq 0 (by omega)).1
  simp [Addr.add] at h1;have ha := J23 h1;obtain ⟨b, o, s⟩ := a;simp at ha;subst ha;have := hq i hi;rw [add_plain, add_plain, add_plain, add_plain, add_plain] at this;obtain ⟨t0, t1, t2, t3, t4, _⟩ := this;exact ⟨by simpa using t0, by simpa [Nat.add_assoc] using t1, by simpa [Nat.add_assoc] using t2, by simpa [Nat.add_assoc] using t3, by simpa [Nat.add_assoc] using t4⟩

theorem Je9 {v : Value} {d : DataW H} {ps : List MemPlace} {r : Reach} {b0 : Nat} (hv : Value.okWide Tryz.prog W r b0 25 v) (h : DataW.Trod enc Tryz.prog W base (fun _ => true) held 25 v d ps) :
  ∃ (p : Prg) (l : Loc), v = .agg #[.slice l.ra p.rl l.rc, .slice l.ca p.cl l.cc] /\ PIn W p l /\ p.Fit := by
 obtain ⟨v0, v1, y0, y1, n, rfl, rfl, rfl, h0, h1⟩ := open_agg2 Tryz.underlying25 (by kernel_rfl) Jj1 hv h;obtain ⟨ra, rb, ro, rl, rc, log, sec, e0, hra, hr, hrc, hrm, hlog⟩ := Jea h0;obtain ⟨ca, cb, co, cl, cc, ins, e1, hca, hc, hcc, hcm, hins⟩ := Je8 h1;simp at e0 e1;subst e0 e1;exact ⟨⟨rl, log, sec, cl, ins⟩, ⟨ra, rb, ro, rc, ca, cb, co, cc⟩, rfl, ⟨hra, hca, hr, hc⟩, ⟨Nat.le_trans hrc hrm, Nat.le_trans hcc hcm, hlog, hins⟩⟩

end
end
section
open Go.ChangeShapes Go.WideShapes Go.ChangeAt Go.RowKit Go.Deep Go.Joins
set_option linter.unusedVariables false
set_option maxRecDepth 8000
structure MRaw (w : World) (m : Mem) (l : MLoc) : Prop where
 hm : 0 < m.ml -> l.ma = some ⟨l.mb, l.mo, none⟩
 lists : ListsAt w l.mb l.mo m.ml l.A m.len l.C
 hg : ∀ i, i < m.ml -> 0 < m.len i -> l.A i = some ⟨l.gb i, l.go i, none⟩
 words : ∀ i, i < m.ml -> ∀ j, j < m.len i -> w.cell? ⟨l.gb i, l.go i + j, none⟩ = some (.int .i64 (m.wd i j))
theorem MRaw.more {w w' : World} (m : More w w') {x : Mem} {l : MLoc} (h : MRaw w x l) : MRaw w' x l :=
 ⟨h.hm, h.lists.more m, h.hg, fun i hi j hj => m.cell (h.words i hi j hj)⟩
theorem MRaw.in_ {w : World} {m : Mem} {l : MLoc} (h : MRaw w m l) (h1 : m.ml <= 6) (h2 : ∀ i, i < m.ml -> m.len i <= 64) : MIn w m l :=
 ⟨h.hm, h.lists, h.hg, h.words, by omega, fun i hi => by have := h2 i hi; omega⟩

theorem J9c {H : Type} {enc : TypeId × Value -> H} {W : World} {base : Nat} {held : Bool} {v : Value} {d : DataW H} {ps : List MemPlace} {r : Reach} {b0 : Nat}
  (hv : Value.okWide Tryz.prog W r b0 26 v) (h : DataW.Trod enc Tryz.prog W base (fun _ => true) held 26 v d ps) :
  ∃ (m : Mem) (l : MLoc), v = .slice l.ma m.ml l.mc /\ MRaw W m l /\ ∀ j, j < m.ml -> ∀ i, i < m.len j -> B64 (m.wd j i) := by
 obtain ⟨a0, len, cap, rfl⟩ := okWide_slice Tryz.underlying26 hv;obtain ⟨fuel, hf⟩ := h;rcases open_int_rows Tryz.underlying26 Tryz.underlying65 Tryz.underlying2 Jj4 Jih hf with ⟨hcs, _⟩ | ⟨a, len', cap', A, L, C, Z, hcs, _, hl, hm, _, hrow⟩
 ·simp [Value.cells] at hcs
  obtain ⟨rfl, rfl, rfl⟩ := hcs;exact ⟨⟨0, fun _ => 0, fun _ _ => 0⟩, ⟨none, 0, 0, 0, fun _ => none, fun _ => 0, fun _ => 0, fun _ => 0⟩, rfl, ⟨fun h => by simp at h, fun i hi => by simp at hi, fun i hi => by simp at hi, fun i hi => by simp at hi⟩, fun j hj => by simp at hj⟩
 ·simp [Value.cells] at hcs
  obtain ⟨rfl, rfl, rfl⟩ := hcs
  have haddr : ∀ i, i < len -> 0 < L i -> ∃ a', A i = some a' /\ a' = ⟨a'.block, a'.off, none⟩ := by
   intro i hi h0;obtain ⟨_, h2, _, _, _, h6, h7⟩ := hrow i (by omega);cases hA : A i with
   | none => have := h6 hA; omega
   | some a' =>
    refine ⟨a', rfl, ?_⟩;have := (h7 a' hA).2 0 (by omega);simp [Addr.add] at this;exact J23 this
  refine ⟨⟨len, L, fun i j => (Z i).getD j 0⟩, ⟨some a, a.block, a.off, cap, A, C, fun i => ((A i).getD a).block, fun i => ((A i).getD a).off⟩, rfl, ⟨fun h0 => ?_, fun i hi => ?_, fun i hi h0 => ?_, fun i hi j hj => ?_⟩, fun j hj i hi => ?_⟩
  ·dsimp only at h0 |-
   have h1 := (hrow 0 (by omega)).1;simp [Addr.add] at h1;rw [<- J23 h1]
  ·dsimp only at hi |-
   have h1 := (hrow 0 (by omega)).1;simp [Addr.add] at h1;have ha := J23 h1;obtain ⟨b, o, s⟩ := a;simp at ha;subst ha;have := (hrow i (by omega)).1;rw [add_plain] at this;exact this
  ·dsimp only at hi h0 |-
   obtain ⟨a', e1, e2⟩ := haddr i hi h0;rw [e1];simp only [Option.getD_some];rw [<- e2]
  ·dsimp only at hi hj |-
   obtain ⟨a', e1, e2⟩ := haddr i hi (by omega);have h2 := (hrow i (by omega)).2.1;have := ((hrow i (by omega)).2.2.2.2.2.2 a' e1).2 j (by omega);rw [e1];simp only [Option.getD_some];rw [e2, add_plain] at this;exact this
  ·dsimp only at hj hi |-
   obtain ⟨_, h2, _, h4, h5, _, _⟩ := hrow j (by omega);have hlt : i < (Z j).length := by omega
   have : (Z j).getD i 0 ∈ Z j := by simp [List.getD, List.getElem?_eq_getElem hlt]
   exact bounds_i64 (h5 _ this)
end
section
open Go.RowKit
def arr (f : Nat -> Bool) : Array Value := Array.ofFn (n := 64) fun i => .bool (f i.val)

theorem J2n (f : Nat -> Bool) : (arr f).size = 64 := by simp [arr]
theorem Jdd (f : Nat -> Bool) : (arr f).all (·.oneCell') = true := by
 rw [Array.all_eq_true]; intro i hi; simp [arr]; rfl
theorem J31 (f : Nat -> Bool) (i : Nat) (h : i < 64) : (arr f)[i]? = some (.bool (f i)) := by
 simp [arr, h]
theorem Jde (f : Nat -> Bool) (k : Nat) (b : Bool) : (arr f).setIfInBounds k (.bool b) = arr (fun i => if i = k then b else f i) := by
 apply Array.ext_getElem?;intro i;rw [Array.getElem?_setIfInBounds, J2n];by_cases hi : i < 64
 ·rw [J31 _ _ hi, J31 _ _ hi]
  by_cases h : k = i
  ·subst h; simp [hi]
  ·have h' : ¬ i = k := fun e => h e.symm
   simp [h, h']
 ·have e1 : (arr f)[i]? = none := by simp [J2n]; omega
  have e2 : (arr (fun i => if i = k then b else f i))[i]? = none := by simp [J2n]; omega
  rw [e1, e2];by_cases h : k = i
  ·subst h; simp [hi]
  ·simp [h]
theorem J3s {f g : Nat -> Bool} (h : ∀ i, i < 64 -> f i = g i) : arr f = arr g := by
 apply Array.ext
 ·simp [arr]
 ·intro i h1 h2
  have : i < 64 := by simpa [arr] using h1
  simp [arr, h i this]
theorem Jfr : arr (fun _ => false) = Array.replicate 64 (.bool false) := by
 apply Array.ext
 ·simp [arr]
 ·intro i h1 h2; simp [arr]

def val (f : Nat -> Bool) : Nat -> Nat
 | 0 => 0
 | k + 1 => val f k + if f k then 2 ^ k else 0

theorem J78 (u : Nat) : ∀ k, val (fun i => u.testBit i) k = u % 2 ^ k
 | 0 => by simp [val, Nat.mod_one]
 | k + 1 => by
  rw [val, J78 u k, Nat.mod_pow_succ, Nat.testBit_eq_decide_div_mod_eq];rcases Nat.mod_two_eq_zero_or_one (u / 2 ^ k) with h | h <;> simp [h]

theorem Jkt (u : Nat) (h : u < 18446744073709551616) : val (fun i => u.testBit i) 64 = u := by
 rw [J78]; exact Nat.mod_eq_of_lt h

theorem Jge (a : Int) (k : Nat) (hk : k < 64) : (toU a).testBit k = decide (a / 2 ^ k % 2 = 1) := by
 have hM : (18446744073709551616 : Int) = 2 ^ k * (2 * 2 ^ (63 - k)) := by
  have : (18446744073709551616 : Int) = 2 ^ 64 := by decide
  rw [this, show (64 : Nat) = k + (1 + (63 - k)) by omega, Int.pow_add, Int.pow_add]; simp
 have h1 : a % 18446744073709551616 = a + 2 ^ k * (-(2 * 2 ^ (63 - k) * (a / 18446744073709551616))) := by
  have h := Int.emod_add_mul_ediv a 18446744073709551616
  have e : (18446744073709551616 : Int) * (a / 18446744073709551616) = 2 ^ k * (2 * 2 ^ (63 - k) * (a / 18446744073709551616)) := by
   rw [<- Int.mul_assoc, <- hM]
  rw [Int.mul_neg, <- e]; omega
 have h2 : a % 18446744073709551616 / 2 ^ k = a / 2 ^ k + -(2 * 2 ^ (63 - k) * (a / 18446744073709551616)) := by
  rw [h1, Int.add_mul_ediv_left _ _ (by have : (0 : Int) < 2 ^ k := Int.pow_pos (by decide); omega)]
 have h3 : (a / 2 ^ k + -(2 * 2 ^ (63 - k) * (a / 18446744073709551616))) % 2 = a / 2 ^ k % 2 := by
  rw [Int.mul_assoc];generalize 2 ^ (63 - k) * (a / 18446744073709551616) = d;generalize a / 2 ^ k = n;omega
 rw [Nat.testBit_eq_decide_div_mod_eq]
 congr 1
 apply propext
 have h4 : ((toU a / 2 ^ k % 2 : Nat) : Int) = a / 2 ^ k % 2 := by
  push_cast
  rw [J59, h2, h3]
 omega

theorem Jdt (a : Int) (k : Nat) : a / 2 ^ (k + 1) = a / 2 ^ k / 2 := by
 rw [Int.pow_succ, Int.ediv_ediv_of_nonneg (by have : (0 : Int) < 2 ^ k := Int.pow_pos (by decide); omega)]
theorem Jl0 : (Tryz.prog.info? 133).map (·.size) = some 64 := by kernel_rfl
theorem J3k (f : Nat -> Bool) : (Tryz.prog.info? 133).map (·.size) = some (arr f).size := by rw [J2n]; exact Jl0

theorem J8o (w : World) (c c' : Array Value) (t : TypeId) (o : Obj) :
  ((w.alloc (.cells c t)).alloc o).setRow w.heap.size c' = (w.alloc (.cells c' t)).alloc o := by
 simp only [World.setRow, World.alloc]
 congr 1
 apply Array.ext_getElem?;intro i;rw [Array.getElem?_modify];by_cases h : w.heap.size = i
 ·subst h
  simp [Array.getElem?_push]
 ·have h' : ¬ i = w.heap.size := fun e => h e.symm
  simp [h, h', Array.getElem?_push]

def part (u k : Nat) : Array Value := arr (fun i => decide (i < k) && u.testBit i)

theorem J9e (u : Nat) : part u 0 = Array.replicate 64 (.bool false) := by
 rw [<- Jfr]; exact J3s fun i _ => by simp
theorem J55 (u : Nat) : part u 64 = arr (fun i => u.testBit i) := J3s fun i hi => by simp [hi]
theorem J2r (u k : Nat) (b : Bool) (h : u.testBit k = b) : (part u k).setIfInBounds k (.bool b) = part u (k + 1) := by
 unfold part;rw [Jde];apply J3s;intro i hi;by_cases e : i = k
 ·subst e; simp [h]
 ·have : (i < k + 1) ↔ (i < k) := by omega
  simp [e, this]

theorem Jc7 (a : Int) (h0 : -9223372036854775808 <= a) (h1 : a <= 9223372036854775807) (w : World) :
  Calls Tryz.prog 75 #[.int .i64 a] w fun e w' => e = .returned (.agg (arr (fun i => (toU a).testBit i))) /\ More w w' := by
 rw [<- J55];go_enter Tryz.func75, Tryz.ntmps75;go_wp2;go_loopg [0, 4] 64 (fun g n i wr => ∃ (k : Nat) (m : Int), k + g = 64 /\ a / 2 ^ k = m /\ -9223372036854775808 <= m /\ m <= 9223372036854775807 /\ i = .int .i64 k /\ n = .int .i64 m /\ wr = (w.alloc (.cells (part (toU a) 0) 133)).alloc (.cells (part (toU a) k) 133))
 case atStart => exact ⟨0, a, by omega, by simp, h0, h1, rfl, rfl, by rw [J9e]; rfl⟩
 case round =>
  obtain ⟨k, n, hkg, hn, b0, b1, rfl, rfl, rfl⟩ := hrel;cases gk with
  | zero =>
   obtain rfl : k = 64 := by omega
   have hi29 : (Tryz.prog.info? 133).map (·.size) = some (part (toU a) 64).size := J3k _;have hg1 := heap_alloc2_new w (.cells (part (toU a) 0) 133) (.cells (part (toU a) 64) 133);have hg0 := heap_alloc2_old w (.cells (part (toU a) 0) 133) (.cells (part (toU a) 64) 133);have hold : (part (toU a) 0).size = (part (toU a) 64).size := by unfold part; rw [J2n, J2n]
   have hall : (part (toU a) 64).all (·.oneCell') = true := Jdd _;go_wp2_with (first | (refine wpList_load_row rfl 133 (.tmp 3) rfl (w.heap.size + 1) rfl 133 _ (0, 0) _ hg1 Tryz.underlying133 rfl hi29 ?_) | (refine wpList_store_row rfl 133 (.tmp 2) (.tmp 24) rfl w.heap.size _ rfl rfl 133 _ hg0 hi29 hold hall ?_; rw [J8o]))
   refine bodyPost_ret (results_cell_row rfl _ _ w.heap.size 133 (part (toU a) 64) (0, 0) _ rfl (heap_alloc2_old _ _ _) Tryz.underlying133 rfl hi29) rfl ⟨rfl, by repeat (first | exact More.refl _ | apply More.drew | apply More.alloc)⟩
  | succ g =>
   have hk : k < 64 := by omega
   have hk' : (k : Int) < 64 := by omega
   have hb := Jge a k hk;have hnx := Jdt a k;rw [hn] at hb hnx
   have hcs : (part (toU a) k)[k]? = some (.bool false) := by
    unfold part; rw [J31 _ _ hk]; simp
   have hsz : (part (toU a) k).size = 64 := by unfold part; exact J2n _
   have Hb : Hid ((toU a).testBit k = decide (n % 2 = 1)) := hb;have Hx : Hid (a / 2 ^ (k + 1) = n / 2) := hnx;clear hb hnx;by_cases hr : n % 2 = 0
   ·have hr1 : n.tmod 2 = 0 := Int.tmod_eq_zero_of_dvd (Int.dvd_of_emod_eq_zero hr)
    have hd : n.tdiv 2 = n / 2 := Int.tdiv_eq_ediv_of_dvd (Int.dvd_of_emod_eq_zero hr);go_wp2;go_roundg g
    case measure => omega
    case rel => exact ⟨k + 1, n / 2, by omega, Hx.out, by omega, by omega, by first | rfl | simp, rfl, by rw [<- J2r (toU a) k false (by rw [Hb.out]; simp [hr])]⟩
   ·have hs : (n - 1).tdiv 2 = n / 2 := by rw [Int.tdiv_eq_ediv_of_dvd (by omega)]; omega
    by_cases hp : 0 <= n
    ·have hr1 : n.tmod 2 = 1 := by rw [Int.tmod_eq_emod_of_nonneg hp]; omega
     go_wp2;go_roundg g
     case measure => omega
     case rel => exact ⟨k + 1, n / 2, by omega, Hx.out, by omega, by omega, by first | rfl | simp, rfl, by rw [<- J2r (toU a) k true (by rw [Hb.out]; simp; omega)]⟩
    ·have hr1 : n.tmod 2 = -1 := by rw [Int.tmod_eq_emod, if_neg (by omega)]; omega
     go_wp2;go_roundg g
     case measure => omega
     case rel => exact ⟨k + 1, n / 2, by omega, Hx.out, by omega, by omega, by first | rfl | simp, rfl, by rw [<- J2r (toU a) k true (by rw [Hb.out]; simp; omega)]⟩

theorem Jc4 (x y : Int) : wrap64 (wrap64 x + wrap64 y) = wrap64 (x + y) := by unfold wrap64; omega

theorem Jku (f : Nat -> Bool) (k : Nat) (s p : Int) (hs : s = wrap64 (val f k : Nat)) (hp : p = wrap64 ((2 ^ k : Nat) : Int)) (h : f k = true) : wrap64 (s + p) = wrap64 (val f (k + 1) : Nat) := by
 subst hs; subst hp;rw [Jc4, val, if_pos h]; push_cast; rfl
theorem Jlk (f : Nat -> Bool) (k : Nat) (s : Int) (hs : s = wrap64 (val f k : Nat)) (h : f k = false) : s = wrap64 (val f (k + 1) : Nat) := by
 rw [hs, val, h]; simp
theorem Jbr (k : Nat) (p : Int) (hp : p = wrap64 ((2 ^ k : Nat) : Int)) : wrap64 (p + p) = wrap64 ((2 ^ (k + 1) : Nat) : Int) := by
 subst hp;rw [Jc4, Nat.pow_succ]; push_cast; congr 1; omega

theorem Jh2 (f : Nat -> Bool) (c : Array Value) (hsz : c.size = 64) (hc : ∀ i, i < 64 -> c[i]? = some (.bool (f i))) (w : World) :
  Calls Tryz.prog 87 #[.agg c] w fun e w' => e = .returned (.int .i64 (wrap64 ((val f 64 : Nat) : Int))) /\ More w w' := by
 have Hc : Hid (∀ i, i < 64 -> c[i]? = some (.bool (f i))) := hc;clear hc;go_enter Tryz.func87, Tryz.ntmps87;go_wp2;go_loopg [3, 4, 5] 64 (fun g sv pv i wr => ∃ (k : Nat) (s p : Int), k + g = 64 /\ s = wrap64 ((val f k : Nat) : Int) /\ p = wrap64 ((2 ^ k : Nat) : Int) /\ sv = .int .i64 s /\ pv = .int .i64 p /\ i = .int .i64 k /\ wr = w.alloc (.cells c 133))
 case atStart => exact ⟨0, 0, 1, by omega, by unfold val wrap64; omega, by unfold wrap64; omega, rfl, rfl, rfl, rfl⟩
 case round =>
  obtain ⟨k, s, p, hkg, hs, hp, rfl, rfl, rfl, rfl⟩ := hrel;have Hs : Hid (s = wrap64 ((val f k : Nat) : Int)) := hs;have Hp : Hid (p = wrap64 ((2 ^ k : Nat) : Int)) := hp;clear hs hp;cases gk with
  | zero =>
   obtain rfl : k = 64 := by omega
   go_wp2;go_ret;exact ⟨congrArg (fun n => Ending.returned (.int .i64 n)) Hs.out, by repeat (first | exact More.refl _ | apply More.drew | apply More.alloc)⟩
  | succ g =>
   have hk : k < 64 := by omega
   have hk' : (k : Int) < 64 := by omega
   cases hf : f k with
   | true =>
    have hcs : c[k]'(by omega) = .bool true := by have h := Hc.out k hk; rw [hf] at h; exact (Array.getElem?_eq_some_iff.1 h).2
    have Hf : Hid (f k = true) := hf;clear hf;go_wp2;go_roundg g
    case measure => omega
    case rel => exact ⟨k + 1, _, _, by omega, Jku f k s p Hs.out Hp.out Hf.out, Jbr k p Hp.out, rfl, rfl, by first | rfl | simp, rfl⟩
   | false =>
    have hcs : c[k]'(by omega) = .bool false := by have h := Hc.out k hk; rw [hf] at h; exact (Array.getElem?_eq_some_iff.1 h).2
    have Hf : Hid (f k = false) := hf;clear hf;go_wp2;go_roundg g
    case measure => omega
    case rel => exact ⟨k + 1, _, _, by omega, Jlk f k s Hs.out Hf.out, Jbr k p Hp.out, rfl, rfl, by first | rfl | simp, rfl⟩

theorem Jh1 (f : Nat -> Bool) (w : World) :
  Calls Tryz.prog 87 #[.agg (arr f)] w fun e w' => e = .returned (.int .i64 (wrap64 ((val f 64 : Nat) : Int))) /\ More w w' :=
 Jh2 f (arr f) (J2n f) (fun i hi => J31 f i hi) w
end
end Go.Proofs.YtlbfbjeilfcjeaaGreat
