/-
  The texts CvCheck, Shape, InsBox, InsA, InsB, InsC, InsD, RefForm, Way, CvTold, HdLk, HdDoes, HdLike, LdShape, WdPlain, LdFit, SpecAlike, SpecMore, StepS, Flat, FdPlain, RAux, DrRun, DrPlain, DrRes, DrLaid, TcPlain, DrNum, TcCut, one behind the other, with what is used of them.
-/
import Derived.Test.YtephohhigbfafaaGreatDoorJoined4
import Derived.Test.YtephohhigbfafaaGreatDoorRows
import Derived.WalkKit
import Derived.Deep.LoopGhost
import Derived.Test.YtephohhigbfafaaGreatDoorJoined0
import Derived.Test.YtephohhigbfafaaGreatDoorJoined2
import Derived.Test.YtephohhigbfafaaGreatDoorJoined1
import Derived.Laws.IdiomCopy
import Derived.Test.YtephohhigbfafaaGreatDoorJoined3
import Derived.Lib.ParseIntB
import Derived.Lib.IndexMore
import Derived.Lib.ParseIntBTie
import Derived.Lib.AtoiTie
import Derived.Lib.AtoiBound
namespace Go.Proofs.YtephohhigbfafaaGreatDoor
section
open Go.RowKit
set_option linter.unusedSimpArgs false
set_option linter.unusedVariables false
set_option maxRecDepth 8000
theorem Jd9 (cl : Nat) (B : Nat) (w : World) (h : Blk w B (madeCells #[V 0, .bool false, V 0, .bool false, V 0, .bool false, V 0, .bool false, V 0, .bool false, V 0, .bool false, V 0, .bool false, V 0, .bool false, .bool false] (cl * 17)) 141) : PlS w B cl (fun _ => none) := by
 refine ⟨_, h, size_madeCells _ _, fun k j hk hj => ?_⟩
 rw [Jn7]
 unfold madeCells
 rw [Array.getElem?_map, Array.getElem?_range, if_pos (by omega)]
 have hm : (k * 17 + j) % 17 = j := by omega
 have hz : (#[V 0, .bool false, V 0, .bool false, V 0, .bool false, V 0, .bool false, V 0, .bool false, V 0, .bool false, V 0, .bool false, V 0, .bool false, .bool false] : Array Value).size = 17 := rfl
 simp only [Option.map_some]
 rw [hz, hm]
 rw [getElem!_pos _ j (by omega), Array.getElem?_eq_getElem (by omega)]
theorem Jk2 : ∃ i, Tryz.prog.info? 141 = some i ∧ i.zero = some (.agg #[V 0, .bool false, V 0, .bool false, V 0, .bool false, V 0, .bool false, V 0, .bool false, V 0, .bool false, V 0, .bool false, V 0, .bool false, .bool false]) ∧ i.size = 17 ∧ i.bytes = 136 := by
 have h : (Tryz.prog.info? 141).map (fun i => (i.zero, i.size, i.bytes)) = some (some (.agg #[V 0, .bool false, V 0, .bool false, V 0, .bool false, V 0, .bool false, V 0, .bool false, V 0, .bool false, V 0, .bool false, V 0, .bool false, .bool false]), 17, 136) := by kernel_rfl
 obtain ⟨i, h1, h2⟩ := Option.map_eq_some_iff.1 h
 simp only [Prod.mk.injEq] at h2
 exact ⟨i, h1, h2.1, h2.2.1, h2.2.2⟩
theorem Jdf (cl : Nat) (h : cl ≤ 200) (w : World) : (Instr.makeSlice 100 (V (cl : Int)) (V (cl : Int))).run Tryz.prog w = .ok (.slice (some ⟨w.heap.size, 0, none⟩) cl cl) (w.alloc (.cells (madeCells #[V 0, .bool false, V 0, .bool false, V 0, .bool false, V 0, .bool false, V 0, .bool false, V 0, .bool false, V 0, .bool false, V 0, .bool false, .bool false] (cl * 17)) 141)) := by
 obtain ⟨i, h1, h2, h3, h4⟩ := Jk2
 have := run_make (P := Tryz.prog) w 100 141 i (.agg #[V 0, .bool false, V 0, .bool false, V 0, .bool false, V 0, .bool false, V 0, .bool false, V 0, .bool false, V 0, .bool false, V 0, .bool false, .bool false]) Tryz.underlying100 h1 h2 .i64 .i64 cl cl (by omega) (Int.le_refl _) (by rw [h4]; omega) (by omega)
 rw [h3] at this
 simp only [Int.toNat_natCast] at this
 exact this
theorem Jml : (Tryz.prog.info? 102).map (·.size) = some 4 := by kernel_rfl

structure ChB (w1 : World) (cl gM gB : Nat) (w' : World) : Prop where
 bM : Blk w' gM #[.slice none 0 0, .slice none 0 0, .slice none 0 0, .slice none 0 0] 102
 bB : Blk w' gB (madeCells #[V 0, .bool false, V 0, .bool false, V 0, .bool false, V 0, .bool false, V 0, .bool false, V 0, .bool false, V 0, .bool false, V 0, .bool false, .bool false] (cl * 17)) 141
 up : More w1 w'
 ltM : w1.heap.size ≤ gM
 ltB : w1.heap.size ≤ gB
 ne : gM ≠ gB

theorem Jf7 (p : Prg) (lo : Loc) (w : World) (hp : PIn w p lo) (hno : ¬ p.Ok 200 8) :
  Calls Tryz.prog 14 #[.agg #[.slice lo.ra p.rl lo.rc, .slice lo.ca p.cl lo.cc]] w fun e w' => e = .returned (.agg #[V 2, V 0]) ∧ More w w' := by
 have cm : Calls Tryz.prog 33 #[.agg #[.slice lo.ra p.rl lo.rc, .slice lo.ca p.cl lo.cc]] ((w.alloc (.cells #[.slice lo.ra p.rl lo.rc, .slice lo.ca p.cl lo.cc] 28)).alloc (.cells #[V 0, V 0] 52)) fun e w' => e = .returned (.bool false) ∧ More ((w.alloc (.cells #[.slice lo.ra p.rl lo.rc, .slice lo.ca p.cl lo.cc] 28)).alloc (.cells #[V 0, V 0] 52)) w' := by
  refine (Jbk p lo _ (hp.more (((More.refl _).alloc _ _).alloc _ _))).mono ?_
  rintro e w' ⟨r, rfl, hr, m⟩
  cases r with
  | false => exact ⟨rfl, m⟩
  | true => exact absurd (hr.1 rfl) hno
 clear hp hno
 go_enter Tryz.func14, Tryz.ntmps14
 go_wp2_with (fail)
 refine cm.mono ?_
 rintro e w1 ⟨rfl, m1⟩
 have HR : Hid (Blk w1 (w.heap.size + 1) #[V 0, V 0] 52 ∧ More w w1) := ⟨(by simpa using Blk.last (w.alloc (.cells #[.slice lo.ra p.rl lo.rc, .slice lo.ca p.cl lo.cc] 28)) #[V 0, V 0] 52 : Blk _ (w.heap.size + 1) _ _).more m1, (((More.refl _).alloc _ _).alloc _ _).trans m1⟩
 have t0 := HR.out.1.cell (j := 0) rfl
 have t1 := HR.out.1.cell (j := 1) rfl
 have u0 := HR.out.1.frozen 0
 have u1 := HR.out.1.frozen 1
 clear m1 cm
 go_wp2
 refine bodyPost_ret (by simp [results, Tryz.results14, go_sem, *]) rfl ⟨rfl, ?_⟩
 exact (HR.out.2.setCell (by dsimp only; omega) _).setCell (by dsimp only; omega) _

set_option maxHeartbeats 2000000 in
theorem J8m (p : Prg) (lo : Loc) (w : World) (hp : PIn w p lo) (hok : p.Ok 200 8) (hnr : ∀ i, i < p.cl → -9223372036854775808 ≤ (p.ins i).n ∧ (p.ins i).n ≤ 9223372036854775807) :
  Calls Tryz.prog 14 #[.agg #[.slice lo.ra p.rl lo.rc, .slice lo.ca p.cl lo.cc]] w fun e w' => ∃ l, Known p l ∧ e = .returned (.agg #[V (J1c p l).1, V (J1c p l).2]) ∧ More w w' := by
 suffices hP : ∀ P : Ending → World → Prop, (∀ l, Known p l → ∀ w', More w w' → P (.returned (.agg #[V (J1c p l).1, V (J1c p l).2])) w') → Calls Tryz.prog 14 #[.agg #[.slice lo.ra p.rl lo.rc, .slice lo.ca p.cl lo.cc]] w P from hP _ (fun l h1 w' h2 => ⟨l, h1, rfl, h2⟩)
 intro P hP0
 have HP : Hid (∀ l, Known p l → ∀ w', More w w' → P (.returned (.agg #[V (J1c p l).1, V (J1c p l).2])) w') := hP0
 clear hP0
 have H : Hid (PIn w p lo ∧ p.Ok 200 8 ∧ ∀ i, i < p.cl → -9223372036854775808 ≤ (p.ins i).n ∧ (p.ins i).n ≤ 9223372036854775807) := ⟨hp, hok, hnr⟩
 have cm : Calls Tryz.prog 33 #[.agg #[.slice lo.ra p.rl lo.rc, .slice lo.ca p.cl lo.cc]] ((w.alloc (.cells #[.slice lo.ra p.rl lo.rc, .slice lo.ca p.cl lo.cc] 28)).alloc (.cells #[V 0, V 0] 52)) fun e w' => e = .returned (.bool true) ∧ More ((w.alloc (.cells #[.slice lo.ra p.rl lo.rc, .slice lo.ca p.cl lo.cc] 28)).alloc (.cells #[V 0, V 0] 52)) w' := by
  refine (Jbk p lo _ (hp.more (((More.refl _).alloc _ _).alloc _ _))).mono ?_
  rintro e w' ⟨r, rfl, hr, m⟩
  cases r with
  | true => exact ⟨rfl, m⟩
  | false => exact absurd (hr.2 hok) (by simp)
 have hcl : p.cl ≤ 200 := hok.2.2.1
 clear hp hok hnr
 obtain ⟨cl, Hcl⟩ : ∃ x, Hid (p.cl = x) := ⟨_, rfl⟩
 rw [Hcl.out] at hcl cm ⊢
 have hi2 : ((cl : Int) ≤ 200) := by omega
 have hmk := Jdf cl hcl
 obtain ⟨Zs, hZs⟩ : ∃ x, madeCells #[V 0, .bool false, V 0, .bool false, V 0, .bool false, V 0, .bool false, V 0, .bool false, V 0, .bool false, V 0, .bool false, V 0, .bool false, .bool false] (cl * 17) = x := ⟨_, rfl⟩
 have HZs : Hid (madeCells #[V 0, .bool false, V 0, .bool false, V 0, .bool false, V 0, .bool false, V 0, .bool false, V 0, .bool false, V 0, .bool false, V 0, .bool false, .bool false] (cl * 17) = Zs) := hZs
 rw [hZs] at hmk
 clear hZs
 obtain ⟨ra, Hra⟩ : ∃ x, Hid (lo.ra = x) := ⟨_, rfl⟩
 obtain ⟨rl, Hrl⟩ : ∃ x, Hid (p.rl = x) := ⟨_, rfl⟩
 obtain ⟨rc, Hrc⟩ : ∃ x, Hid (lo.rc = x) := ⟨_, rfl⟩
 obtain ⟨ca, Hca⟩ : ∃ x, Hid (lo.ca = x) := ⟨_, rfl⟩
 obtain ⟨cc, Hcc⟩ : ∃ x, Hid (lo.cc = x) := ⟨_, rfl⟩
 rw [Hra.out, Hrl.out, Hrc.out, Hca.out, Hcc.out] at cm ⊢
 go_enter Tryz.func14, Tryz.ntmps14
 go_wp2_with (fail)
 refine cm.mono ?_
 rintro e w1 ⟨rfl, m1⟩
 have HR : Hid (Blk w1 w.heap.size #[.slice ra rl rc, .slice ca cl cc] 28 ∧ Blk w1 (w.heap.size + 1) #[V 0, V 0] 52 ∧ More w w1) := ⟨((Blk.last _ _ _).alloc _ _).more m1, (by simpa using Blk.last (w.alloc (.cells #[.slice ra rl rc, .slice ca cl cc] 28)) #[V 0, V 0] 52 : Blk _ (w.heap.size + 1) _ _).more m1, (((More.refl _).alloc _ _).alloc _ _).trans m1⟩
 have Hpin : Hid (PIn w1 p lo) := H.out.1.more HR.out.2.2
 clear m1 cm
 obtain ⟨S, HS⟩ : ∃ S : World → Prop, Hid (∀ w', S w' ↔ More w1 w') := ⟨_, fun _ => Iff.rfl⟩
 have HS0 : S w1.drew := (HS.out _).2 (More.refl _).drew
 have hne : Nonempty { w' // S w' } := ⟨⟨_, HS0⟩⟩
 have k0 : ∀ i : { w' // S w' }, i.val.cell? ⟨w.heap.size, 0, none⟩ = some (.slice ra rl rc) := fun i => (HR.out.1.more ((HS.out _).1 i.property)).cell rfl
 have k1 : ∀ i : { w' // S w' }, i.val.cell? ⟨w.heap.size, 1, none⟩ = some (.slice ca cl cc) := fun i => (HR.out.1.more ((HS.out _).1 i.property)).cell rfl
 go_wp2_with (fail)
 refine J1n (S := S) (by kernel_rfl) HS0 ?_
 refine J0a 0 rfl (by kernel_rfl) HS0 (by kernel_rfl) (fun K hK => ?_); go_simp; refine hK _ _ ?_; clear hK K
 refine J0a 1 rfl (by kernel_rfl) HS0 (by kernel_rfl) (fun K hK => ?_); go_simp; refine hK _ _ ?_; clear hK K
 refine J0a 2 rfl (by kernel_rfl) HS0 (by kernel_rfl) (fun K hK => ?_); go_simp; refine hK _ _ ?_; clear hK K
 refine J0a 3 rfl (by kernel_rfl) HS0 (by kernel_rfl) (fun K hK => ?_); go_simp; refine hK _ _ ?_; clear hK K
 obtain ⟨wd, Hwd⟩ : ∃ wd : World, Hid (wd = w1.drew) := ⟨_, rfl⟩
 have Hmwd : Hid (More w1 wd) := Hwd.out ▸ (More.refl w1).drew
 rw [← Hwd.out]
 clear k0 k1
 apply J91
 ·intro key
  refine J31 4 6 (by kernel_rfl) ?_ ?_
  ·refine J09 rfl (by kernel_rfl) (fun K hK => ?_); go_simp
   obtain ⟨w2, Hw2⟩ : ∃ w_ : World, Hid (w_ = wd.alloc (.cells Zs 141)) := ⟨_, rfl⟩
   have m2 : More wd w2 := Hw2.out ▸ (More.refl _).alloc _ _
   have Hm2 : Hid (More w1 w2) := Hmwd.out.trans m2
   have Hb2 : Hid (Blk w2 wd.heap.size Zs 141) := Hw2.out ▸ Blk.last _ _ _
   rw [← Hw2.out]
   clear m2 Hw2
   have HS2 : S w2 := (HS.out _).2 Hm2.out
   refine hK _ _ HS2 ?_; clear hK K
   refine J0a 5 rfl (by kernel_rfl) HS2 (by kernel_rfl) (fun K hK => ?_); go_simp; refine hK _ _ ?_; clear hK K
   refine J0n 6 (by kernel_rfl) ?_
   refine J09 rfl (by kernel_rfl) (fun K hK => ?_); go_simp
   obtain ⟨w3, Hw3⟩ : ∃ w_ : World, Hid (w_ = w2.alloc (.cells #[.slice none 0 0, .slice none 0 0, .slice none 0 0, .slice none 0 0] 102)) := ⟨_, rfl⟩
   have m3 : More w2 w3 := Hw3.out ▸ (More.refl _).alloc _ _
   have Hm3 : Hid (More w1 w3) := Hm2.out.trans m3
   have Hb3 : Hid (Blk w3 w2.heap.size #[.slice none 0 0, .slice none 0 0, .slice none 0 0, .slice none 0 0] 102) := Hw3.out ▸ Blk.last _ _ _
   have F : Hid (ChB w1 cl w2.heap.size wd.heap.size w3) := ⟨Hb3.out, HZs.out ▸ Hb2.out.more m3, Hm3.out, Hm2.out.size, Hmwd.out.size, Nat.ne_of_gt Hb2.out.lt⟩
   rw [← Hw3.out]
   clear m3 Hw3
   refine hK _ _ ((HS.out _).2 Hm3.out) ?_; clear hK K
   refine J0t (listed' := #[true, true, true, true, true, true, true, false]) (by kernel_rfl) ?_
   clear Hb2 Hm2 HS2 Hm3 Hb3
   generalize w2.heap.size = gM at F ⊢
   generalize wd.heap.size = gB at F ⊢
   clear w2
   revert w3 gM gB
   exact key
  ·refine J09 rfl (by kernel_rfl) (fun K hK => ?_); go_simp
   obtain ⟨w2, Hw2⟩ : ∃ w_ : World, Hid (w_ = wd.alloc (.cells #[.slice none 0 0, .slice none 0 0, .slice none 0 0, .slice none 0 0] 102)) := ⟨_, rfl⟩
   have m2 : More wd w2 := Hw2.out ▸ (More.refl _).alloc _ _
   have Hm2 : Hid (More w1 w2) := Hmwd.out.trans m2
   have Hb2 : Hid (Blk w2 wd.heap.size #[.slice none 0 0, .slice none 0 0, .slice none 0 0, .slice none 0 0] 102) := Hw2.out ▸ Blk.last _ _ _
   rw [← Hw2.out]
   clear m2 Hw2
   refine hK _ _ ((HS.out _).2 Hm2.out) ?_; clear hK K
   refine J0n 4 (by kernel_rfl) ?_
   refine J09 rfl (by kernel_rfl) (fun K hK => ?_); go_simp
   obtain ⟨w3, Hw3⟩ : ∃ w_ : World, Hid (w_ = w2.alloc (.cells Zs 141)) := ⟨_, rfl⟩
   have m3 : More w2 w3 := Hw3.out ▸ (More.refl _).alloc _ _
   have Hm3 : Hid (More w1 w3) := Hm2.out.trans m3
   have Hb3 : Hid (Blk w3 w2.heap.size Zs 141) := Hw3.out ▸ Blk.last _ _ _
   have F : Hid (ChB w1 cl wd.heap.size w2.heap.size w3) := ⟨Hb2.out.more m3, HZs.out ▸ Hb3.out, Hm3.out, Hmwd.out.size, Hm2.out.size, Nat.ne_of_lt Hb2.out.lt⟩
   rw [← Hw3.out]
   clear m3 Hw3
   have HS3 : S w3 := (HS.out _).2 Hm3.out
   refine hK _ _ HS3 ?_; clear hK K
   refine J0a 5 rfl (by kernel_rfl) HS3 (by kernel_rfl) (fun K hK => ?_); go_simp; refine hK _ _ ?_; clear hK K
   refine J0t (listed' := #[true, true, true, true, true, true, true, false]) (by kernel_rfl) ?_
   exact key _ _ _ F
 ·intro w3 gM gB F
  obtain ⟨w4, Hw4⟩ : ∃ w_ : World, Hid (w_ = w3.setRow gM #[.slice ra rl rc, .slice ca cl cc, .slice (some ⟨gB, 0, none⟩) cl cl, .slice none 0 0]) := ⟨_, rfl⟩
  have Hck : Hid (Ck w1 p lo gM gB (fun _ => none) [] (.slice none 0 0) w4) := by
   rw [Hw4.out]
   refine ⟨?_, World.ownsRow_nil _ _ _ _, ?_, F.out.up.setRow F.out.ltM _, Hpin.out, ⟨F.out.ltM, F.out.ltB⟩⟩
   ·rw [Hra.out, Hrl.out, Hrc.out, Hca.out, Hcc.out, Hcl.out]
    exact F.out.bM.setRow _
   ·rw [Hcl.out]
    exact Jd9 cl gB _ (F.out.bB.setRow_other F.out.ne.symm _)
  refine J0n 7 (by kernel_rfl) ?_
  refine J09 rfl (by kernel_rfl) (fun K hK => ?_)
  refine wp_store_row 102 (.tmp 3) (.tmp 13) rfl gM #[.slice ra rl rc, .slice ca cl cc, .slice (some ⟨gB, 0, none⟩) cl cl, .slice none 0 0] rfl rfl 102 _ F.out.bM Jml rfl (by simp [Value.oneCell']) ?_
  rw [← Hw4.out]
  refine hK _ _ ((HS.out _).2 Hck.out.up) ?_; clear hK K
  refine J6h (by kernel_rfl) ?_
  clear hne HS0
  have c1 := Jd5 Hck.out H.out.2.1 H.out.2.2
  go_wp2_with (fail)
  refine c1.mono ?_
  rintro e w5 ⟨rfl, kp5, l, tv, hk5, ck5⟩
  have Hck5 : Hid (Ck w1 p lo gM gB l [] tv w5 ∧ Known p l) := ⟨ck5, hk5⟩
  have c2 : Calls Tryz.prog 35 #[.pointer (some ⟨gM, 0, none⟩)] w5 fun e w' => e = .returned (.agg #[V (J1c p l).1, V (J1c p l).2]) ∧ More w5 w' := Jco ck5 H.out.2.1 H.out.2.2 (by simp)
  clear kp5 hk5 ck5 c1
  have HP2 : Hid (∀ w', More w w' → P (.returned (.agg #[V (J1c p l).1, V (J1c p l).2])) w') := HP.out l Hck5.out.2
  obtain ⟨f, hf⟩ : ∃ x, J1c p l = x := ⟨_, rfl⟩
  rw [hf] at c2 HP2
  clear hf HP
  obtain ⟨f1, f2⟩ := f
  dsimp only at c2 HP2
  go_wp2_with (fail)
  refine c2.mono ?_
  rintro e w6 ⟨rfl, m6⟩
  have HR6 : Hid (Blk w6 (w.heap.size + 1) #[V 0, V 0] 52 ∧ More w w6) := ⟨HR.out.2.1.more (Hck5.out.1.up.trans m6), HR.out.2.2.trans (Hck5.out.1.up.trans m6)⟩
  have t0 := HR6.out.1.cell (j := 0) rfl
  have t1 := HR6.out.1.cell (j := 1) rfl
  have u0 := HR6.out.1.frozen 0
  have u1 := HR6.out.1.frozen 1
  clear m6 c2
  go_wp2
  refine bodyPost_ret (v := .agg #[V f1, V f2]) (by simp [results, Tryz.results14, go_sem, *]) rfl (HP2.out _ ?_)
  exact (HR6.out.2.setCell (by dsimp only; omega) _).setCell (by dsimp only; omega) _
end
section
open Go.RowKit
set_option linter.unusedSimpArgs false
set_option linter.unusedVariables false
theorem Jn0 (o x y : Int) : B64 (opI o x y) := by
  unfold opI
  repeat' split
  all_goals first | exact Je4 _ | exact J1b

theorem J3w {r : Nat → Int} (hr : ∀ j, j < 10 → B64 (r j)) (a v : Int) (hv : B64 v) : ∀ j, j < 10 → B64 (setR r a v j) := by
  intro j hj
  unfold setR
  split
  · exact hv
  · exact hr j hj

theorem Jbv {r : Nat → Int} (hr : ∀ j, j < 10 → B64 (r j)) (i : Ins) (hb : i.op = 2 → i.b.toNat < 10) (hn : B64 i.n) : ∀ j, j < 10 → B64 ((regsI r i).1 j) := by
  unfold regsI
  by_cases h1 : i.op = 1
  · rw [if_pos h1]; exact J3w hr _ _ hn
  rw [if_neg h1]
  by_cases h2 : i.op = 2
  · rw [if_pos h2]; exact J3w hr _ _ (hr _ (hb h2))
  rw [if_neg h2]
  by_cases h3 : i.op = 10
  · rw [if_pos h3]; exact J3w hr _ _ (Je4 _)
  rw [if_neg h3]
  by_cases h4 : i.op = 11
  · rw [if_pos h4]
    dsimp only
    split
    · exact J3w hr _ _ J1b
    · exact hr
  rw [if_neg h4]
  by_cases h5 : i.op = 12
  · rw [if_pos h5]; exact hr
  rw [if_neg h5]
  exact J3w hr _ _ (Jn0 _ _ _)
theorem Jbw (r : Nat → Int) (i : Ins) : (regsI r i).2.length ≤ 1 := by
  unfold regsI
  repeat' split
  all_goals first | exact Nat.zero_le _ | exact Nat.le_refl _

theorem Jf5 {p : Prg} {m : Mem} {k : Nat} {s : St} (h : Inv p m k s) (hat : s.at_ < p.cl) (hin : InsOk p.rl p.log p.cl 10 (p.ins s.at_)) (hn : B64 (p.ins s.at_).n) (hrl : m.ml = p.rl) : Inv p m (k + 1) (stepI p s).1 := by
  have hseen := h.seen
  have hl1 : ∀ l : List Se, l.length ≤ 1 → (s.seen ++ [(⟨1, s.at_, 0⟩ : Se)] ++ l).length ≤ 2 * (k + 1) := fun l hl => by simp; omega
  have hl0 : (s.seen ++ [(⟨1, s.at_, 0⟩ : Se)]).length ≤ 2 * (k + 1) := by simp; omega
  unfold stepI
  by_cases h7 : (p.ins s.at_).op = 7
  · rw [if_pos h7]
    have : 0 ≤ (p.ins s.at_).n ∧ (p.ins s.at_).n < p.cl := by unfold InsOk Plc at hin; simp [h7] at hin; exact hin.2.2.2
    exact ⟨by dsimp only; omega, h.r, h.ml, h.len, h.wd, hl0⟩
  rw [if_neg h7]
  by_cases h8 : (p.ins s.at_).op = 8
  · rw [if_pos h8]
    have : 0 ≤ (p.ins s.at_).n ∧ (p.ins s.at_).n < p.cl := by unfold InsOk Plc at hin; simp [h8] at hin; exact hin.2.2.2
    refine ⟨?_, h.r, h.ml, h.len, h.wd, hl0⟩
    dsimp only
    split <;> omega
  rw [if_neg h8]
  by_cases h9 : (p.ins s.at_).op = 9
  · rw [if_pos h9]; exact ⟨by dsimp only; omega, h.r, h.ml, h.len, h.wd, hl0⟩
  rw [if_neg h9]
  by_cases hp : 0 ≤ putI (p.ins s.at_)
  · rw [if_pos hp]
    have hop : (p.ins s.at_).op = 3 ∨ (p.ins s.at_).op = 4 ∨ (p.ins s.at_).op = 5 ∨ (p.ins s.at_).op = 6 := by
      unfold putI at hp
      by_cases e1 : (p.ins s.at_).op = 3 ∨ (p.ins s.at_).op = 5
      · omega
      · rw [if_neg e1] at hp
        by_cases e2 : (p.ins s.at_).op = 4 ∨ (p.ins s.at_).op = 6
        · omega
        · rw [if_neg e2] at hp; omega
    have hc : (p.ins s.at_).c.toNat < m.ml ∧ (p.ins s.at_).a.toNat < 10 := by
      unfold InsOk Reg Rgn at hin
      rcases hop with e | e | e | e <;> simp [e] at hin <;> omega
    by_cases hx : idxI s.r (p.ins s.at_) < 0 ∨ (s.m.len (p.ins s.at_).c.toNat : Int) ≤ idxI s.r (p.ins s.at_)
    · rw [if_pos hx]; exact ⟨by dsimp only; omega, h.r, h.ml, h.len, h.wd, hl0⟩
    rw [if_neg hx]
    have hlen := h.len (p.ins s.at_).c.toNat
    by_cases h1 : putI (p.ins s.at_) = 1
    · rw [if_pos h1]
      refine ⟨by dsimp only; omega, h.r, h.ml, h.len, fun j hj i hi => ?_, hl1 _ (Nat.le_refl _)⟩
      dsimp only [setW]
      split
      · exact h.r _ hc.2
      · exact h.wd j hj i hi
    · rw [if_neg h1]
      exact ⟨by dsimp only; omega, J3w h.r _ _ (h.wd _ hc.1 _ (by omega)), h.ml, h.len, h.wd, hl1 _ (Nat.le_refl _)⟩
  rw [if_neg hp]
  refine ⟨by dsimp only; omega, Jbv h.r _ (fun e => ?_) hn, h.ml, h.len, h.wd, hl1 _ (Jbw _ _)⟩
  unfold InsOk Reg at hin
  simp [e] at hin
  omega

def baseN (len : Nat → Nat) : Nat → Nat
  | 0 => 0
  | k + 1 => baseN len k + len k
theorem J5r (len : Nat → Nat) : ∀ k, (∀ j, j < k → len j ≤ 64) → baseN len k ≤ 64 * k
  | 0, _ => by simp [baseN]
  | k + 1, h => by
    have := J5r len k (fun j hj => h j (by omega))
    have := h k (by omega)
    simp only [baseN]
    omega
theorem J3e (len : Nat → Nat) (a : Nat) : ∀ k, a ≤ k → baseN len a ≤ baseN len k
  | 0, h => by obtain rfl : a = 0 := by omega
               exact Nat.le_refl _
  | k + 1, h => by
    by_cases e : a = k + 1
    · subst e; exact Nat.le_refl _
    · have := J3e len a k (by omega)
      simp only [baseN]
      omega

theorem J36 (p : Prg) (m : Mem) (hlen : ∀ i, i < m.ml → (m.len i : Int) = J0g (p.log i)) : ∀ j, j ≤ m.ml → (baseN m.len j : Int) = baseI p.log j
  | 0, _ => rfl
  | j + 1, h => by
    simp only [baseN, baseI]
    rw [← J36 p m hlen j (by omega), ← hlen j (by omega)]
    push_cast
    rfl
end
section
open Go.RowKit
set_option linter.unusedSimpArgs false
set_option linter.unusedVariables false
set_option maxRecDepth 8000
theorem J84 {p : Prg} {l : KV} : ∀ n at_, (scanK p l n at_).1 = 0 ∨ (scanK p l n at_).1 = 4 ∨ (scanK p l n at_).1 = 5
 | 0, at_ => .inl rfl
 | n + 1, at_ => by
  rw [scanK]
  cases l at_ with
  | none => exact J84 n (at_ + 1)
  | some s =>
   dsimp only
   by_cases h : J2q p at_ s = 0
   ·rw [if_pos h]; exact J84 n (at_ + 1)
   ·rw [if_neg h]
    dsimp only
    revert h
    unfold J2q
    split
    ·intro _; exact .inr (.inl rfl)
    ·split
     ·intro _; exact .inr (.inr rfl)
     ·intro h; exact absurd rfl h

def Told (p : Prg) (f : Int × Int) : Prop := (¬ p.Ok 200 8 ∧ f = (2, 0)) ∨ (p.Ok 200 8 ∧ ∃ l, Known p l ∧ f = J1c p l)
theorem Told.ok {p : Prg} {f : Int × Int} (h : Told p f) (h0 : f.1 = 0) : p.Ok 200 8 ∧ ∃ l, Known p l ∧ (J1c p l).1 = 0 := by
 rcases h with ⟨_, rfl⟩ | ⟨h1, l, h2, rfl⟩
 ·exact absurd h0 (by decide)
 ·exact ⟨h1, l, h2, h0⟩
theorem Told.one {p : Prg} {f g : Int × Int} (h : Told p f) (k : Told p g) : f = g := by
 rcases h with ⟨h1, rfl⟩ | ⟨h1, l, h2, rfl⟩
 ·rcases k with ⟨_, rfl⟩ | ⟨k1, _⟩
  ·rfl
  ·exact absurd k1 h1
 ·rcases k with ⟨k1, _⟩ | ⟨_, l', k2, rfl⟩
  ·exact absurd h1 k1
  ·exact Jh4 h1 h2 k2

theorem J93 (p : Prg) (l : Loc) (w : World) (hp : PIn w p l) (hf : p.Fit) :
  Calls Tryz.prog 14 #[.agg #[.slice l.ra p.rl l.rc, .slice l.ca p.cl l.cc]] w fun e w' => ∃ f : Int × Int, Told p f ∧ e = .returned (.agg #[V f.1, V f.2]) ∧ More w w' := by
 by_cases hok : p.Ok 200 8
 ·refine (J8m p l w hp hok (fun i hi => (hf.ins i hi).2.2.2.2)).mono ?_
  rintro e w' ⟨l', h1, rfl, m⟩
  exact ⟨_, .inr ⟨hok, l', h1, rfl⟩, rfl, m⟩
 ·exact (Jf7 p l w hp hok).mono (fun e w' ⟨h1, h2⟩ => ⟨(2, 0), .inl ⟨hok, rfl⟩, h1, h2⟩)
structure Like8 (p h : Prg) : Prop where
 ok : h.Ok 8000 10
 fit : h.Fit
 rl : p.rl = h.rl
 reg : ∀ i, i < p.rl → p.log i = h.log i ∧ p.sec i = h.sec i
end
section
open Go.RowKit
set_option linter.unusedSimpArgs false
set_option linter.unusedVariables false
section
variable {p h : Prg} {st : Nat → Nat} {X : Int} {l : KV} {m : Mem} {s t : St}

theorem Hdn.lt (S : Hdn p h st X) {k o : Nat} (hk : k < p.cl) (ho : o < sizeK p k) : st k + o < h.cl := by
 have := S.mono p.cl k hk (Nat.le_refl _)
 rw [S.cl]; omega

end
section
variable {p h : Prg} {st : Nat → Nat} {X : Int}

theorem Hdn.from_ (S : Hdn p h st X) : ∀ (n : Nat), n ≤ p.cl → ∀ q, q < st n → ∃ k o, k < n ∧ o < sizeK p k ∧ q = st k + o
 | 0, _, q, hq => by rw [S.s0] at hq; omega
 | n + 1, hn, q, hq => by
  have e := S.next n (by omega)
  by_cases c : q < st n
  ·obtain ⟨k, o, h1, h2, h3⟩ := S.from_ n (by omega) q c
   exact ⟨k, o, by omega, h2, h3⟩
  ·exact ⟨n, q - st n, by omega, by omega, by omega⟩
theorem Hdn.most (S : Hdn p h st X) : ∀ (n : Nat), n ≤ p.cl → n ≤ st n ∧ st n ≤ 3 * n
 | 0, _ => by rw [S.s0]; omega
 | n + 1, hn => by
  have e := S.next n (by omega)
  have := S.most n (by omega)
  have := J2t p n
  omega

theorem Jet {rl : Nat} {log log' : Nat → Int} {cl cl' : Nat} {i : Ins} (hi : InsOk rl log cl 8 i) (hl : ∀ c, c < rl → log c = log' c) (h7 : ¬ (i.op = 7 ∨ i.op = 8)) : InsOk rl log' cl' 10 i := by
 have up : ∀ x, Reg 8 x → Reg 10 x := fun x q => by unfold Reg at *; omega
 have wd : ∀ c n, Rgn rl c → Wrd log c n → Wrd log' c n := fun c n q w => by
  unfold Rgn at q
  unfold Wrd at *
  rw [← hl c.toNat (by omega)]; exact w
 unfold InsOk at *
 by_cases q1 : i.op = 1
 ·rw [if_pos q1] at *; exact ⟨up _ hi.1, hi.2⟩
 rw [if_neg q1] at *
 by_cases q2 : i.op = 2
 ·rw [if_pos q2] at *; exact ⟨up _ hi.1, up _ hi.2.1, hi.2.2⟩
 rw [if_neg q2] at *
 by_cases q3 : i.op = 3
 ·rw [if_pos q3] at *; exact ⟨up _ hi.1, up _ hi.2.1, hi.2.2⟩
 rw [if_neg q3] at *
 by_cases q4 : i.op = 4
 ·rw [if_pos q4] at *; exact ⟨up _ hi.1, up _ hi.2.1, hi.2.2⟩
 rw [if_neg q4] at *
 by_cases q5 : i.op = 5
 ·rw [if_pos q5] at *; exact ⟨up _ hi.1, hi.2.1, hi.2.2.1, wd _ _ hi.2.2.1 hi.2.2.2⟩
 rw [if_neg q5] at *
 by_cases q6 : i.op = 6
 ·rw [if_pos q6] at *; exact ⟨up _ hi.1, hi.2.1, hi.2.2.1, wd _ _ hi.2.2.1 hi.2.2.2⟩
 rw [if_neg q6, if_neg (fun q => h7 (.inl q)), if_neg (fun q => h7 (.inr q))] at *
 by_cases q9 : i.op = 9
 ·rw [if_pos q9] at *; exact ⟨up _ hi.1, hi.2⟩
 rw [if_neg q9] at *
 by_cases q10 : i.op = 10
 ·rw [if_pos q10] at *; exact ⟨up _ hi.1, up _ hi.2.1, hi.2.2⟩
 rw [if_neg q10] at *
 by_cases q11 : i.op = 11
 ·rw [if_pos q11] at *; exact ⟨up _ hi.1, hi.2⟩
 rw [if_neg q11] at *
 by_cases q12 : i.op = 12
 ·rw [if_pos q12] at *; exact hi
 rw [if_neg q12] at *
 exact ⟨hi.1, up _ hi.2.1, up _ hi.2.2.1, up _ hi.2.2.2.1, hi.2.2.2.2⟩

theorem Jly (S : Hdn p h st X) (ok : p.Ok 200 8) (hf : p.Fit) (q : Nat) (hq : q < h.cl) : InsOk h.rl h.log h.cl 10 (h.ins q) ∧ (h.ins q).fits := by
 rw [S.cl] at hq
 obtain ⟨k, o, hk, ho, rfl⟩ := S.from_ p.cl (Nat.le_refl _) q hq
 have hi := ok.2.2.2 k hk
 have hfit := hf.ins k hk
 unfold Ins.fits at hfit
 have hX : Reg 10 X := by unfold Reg; rcases S.x with e | e <;> omega
 have iX : I64 X := by unfold I64; rcases S.x with e | e <;> omega
 have i0 : I64 0 := by unfold I64; omega
 rw [← S.rl]
 have small := S.most p.cl (Nat.le_refl _)
 have c200 := ok.2.2.1
 by_cases m : (p.ins k).op = 3 ∨ (p.ins k).op = 4
 ·rw [J65 m] at ho
  obtain ⟨m0, m1, m2⟩ := S.mem k hk m
  have hr : Reg 8 (p.ins k).a ∧ Reg 8 (p.ins k).b ∧ Rgn p.rl (p.ins k).c := by unfold InsOk at hi; rcases m with m | m <;> simpa [m] using hi
  obtain ⟨ra, rb, rc⟩ := hr
  have hcr : (p.ins k).c.toNat < p.rl := by unfold Rgn at rc; omega
  have hlog := ok.1.2 _ hcr
  have h64 := J2f (k := (p.log (p.ins k).c.toNat).toNat) (by omega)
  have ra' : Reg 10 (p.ins k).a := by unfold Reg at *; omega
  have rb' : Reg 10 (p.ins k).b := by unfold Reg at *; omega
  have hoo : o = 0 ∨ o = 1 ∨ o = 2 := by omega
  rcases hoo with rfl | rfl | rfl
  ·rw [Nat.add_zero, m0]
   refine ⟨?_, ⟨by unfold I64; dsimp only; omega, iX, hfit.2.2.1, i0, hfit.2.2.2.2⟩⟩
   unfold InsOk
   simp
   exact ⟨hX, rb'⟩
  ·rw [m1]
   refine ⟨?_, ⟨by unfold I64; dsimp only; omega, iX, i0, i0, by unfold I64 J0g; dsimp only; omega⟩⟩
   unfold InsOk
   simp
   exact ⟨hX, by unfold J0g; omega⟩
  ·rw [m2]
   refine ⟨?_, ⟨hfit.1, hfit.2.1, iX, hfit.2.2.2.1, i0⟩⟩
   unfold InsOk
   rcases m with m | m <;> simp [m] <;> exact ⟨ra', hX, rc⟩
 ·rw [J4o m] at ho
  obtain rfl : o = 0 := by omega
  rw [Nat.add_zero]
  by_cases w : (p.ins k).op = 7 ∨ (p.ins k).op = 8
  ·rw [S.go k hk w]
   have hn : Plc p.cl (p.ins k).n := by unfold InsOk at hi; rcases w with w | w <;> simp [w] at hi <;> simp [hi]
   unfold Plc at hn
   have hn2 : (p.ins k).n.toNat < p.cl := by omega
   have hlt := S.lt (o := 0) hn2 (J2t p _).1
   rw [Nat.add_zero] at hlt
   have hcl := S.cl
   have hP : Plc h.cl (st (p.ins k).n.toNat : Int) := by unfold Plc; omega
   refine ⟨?_, ⟨hfit.1, hfit.2.1, hfit.2.2.1, hfit.2.2.2.1, by unfold I64; dsimp only; omega⟩⟩
   unfold InsOk Reg at hi
   unfold InsOk Reg
   rcases w with w | w <;> simp [w] at hi <;> simp [w, hP]
   ·exact ⟨hi.1, hi.2.1, hi.2.2.1⟩
   ·omega
  ·rw [S.copy k hk m w]
   exact ⟨Jet hi (fun c hc => (S.reg c hc).1) w, hfit⟩

theorem Jhj (S : Hdn p h st X) (ok : p.Ok 200 8) (hf : p.Fit) : Like8 p h := by
 have small := S.most p.cl (Nat.le_refl _)
 have c200 := ok.2.2.1
 have c1 := ok.2.1
 have hcl := S.cl
 refine ⟨⟨⟨by rw [← S.rl]; exact ok.1.1, fun i hi => ?_⟩, by omega, by omega, fun q hq => (Jly S ok hf q hq).1⟩, ⟨by rw [← S.rl]; exact hf.rl, ?_, fun i hi => ?_, fun q hq => (Jly S ok hf q hq).2⟩, S.rl, S.reg⟩
 ·rw [← (S.reg i (by rw [S.rl]; exact hi)).1]; exact ok.1.2 i (by rw [S.rl]; exact hi)
 ·have : 600 ≤ maxLen := by decide
  omega
 ·rw [← (S.reg i (by rw [S.rl]; exact hi)).1]; exact hf.log i (by rw [S.rl]; exact hi)

end
def StrI (i : Ins) : Prop := (i.op = 1 ∨ i.op = 2 ∨ i.op = 10 ∨ i.op = 11 ∨ (21 ≤ i.op ∧ i.op ≤ 28)) ∧ i.a.toNat < 10 ∧ i.b.toNat < 10 ∧ i.c.toNat < 10
def seqR : List Ins → (Nat → Int) → Nat → Int
 | [], r => r
 | i :: B, r => seqR B (regsI r i).1
def J2b (i : Ins) (L : Nat → Bool) : Nat → Bool := fun j =>
 if j = i.a.toNat then (if i.op = 1 then false else if i.op = 2 ∨ i.op = 10 then L i.b.toNat else if i.op = 11 then L i.a.toNat else (L i.b.toNat || L i.c.toNat)) else L j
def labs : List Ins → (Nat → Bool) → Nat → Bool
 | [], L => L
 | i :: B, L => labs B (J2b i L)

theorem J2e : ∀ (A B : List Ins) (r : Nat → Int), seqR (A ++ B) r = seqR B (seqR A r)
 | [], _, _ => rfl
 | i :: A, B, r => J2e A B _
theorem J3t : ∀ (A B : List Ins) (L : Nat → Bool), labs (A ++ B) L = labs B (labs A L)
 | [], _, _ => rfl
 | i :: A, B, L => J3t A B _
structure Blo (p h : Prg) (st : Nat → Nat) (B : Nat → List Ins) (X : Int) : Prop where
 x : X = 8 ∨ X = 9
 rl : p.rl = h.rl
 reg : ∀ i, i < p.rl → p.log i = h.log i ∧ p.sec i = h.sec i
 s0 : st 0 = 0
 next : ∀ k, k < p.cl → st (k + 1) = st k + (B k).length
 cl : h.cl = st p.cl
 ne : ∀ k, k < p.cl → 0 < (B k).length
 at_ : ∀ k, k < p.cl → ∀ o i, (B k)[o]? = some i → h.ins (st k + o) = i
 go : ∀ k, k < p.cl → (p.ins k).op = 7 ∨ (p.ins k).op = 8 → B k = [⟨(p.ins k).op, (p.ins k).a, (p.ins k).b, (p.ins k).c, (st (p.ins k).n.toNat : Int)⟩]
 one : ∀ k, k < p.cl → (p.ins k).op = 5 ∨ (p.ins k).op = 6 ∨ (p.ins k).op = 9 ∨ (p.ins k).op = 12 ∨ (p.ins k).op = 29 ∨ (p.ins k).op = 30 → B k = [p.ins k]
 mem : ∀ k, k < p.cl → (p.ins k).op = 3 ∨ (p.ins k).op = 4 → ∃ pre, B k = pre ++ [⟨(p.ins k).op, (p.ins k).a, X, (p.ins k).c, 0⟩] ∧ (∀ i ∈ pre, StrI i) ∧ (∀ r j, j < 8 → seqR pre r j = r j) ∧
  (∀ r, 0 ≤ seqR pre r X.toNat ∧ seqR pre r X.toNat < J0g (p.log (p.ins k).c.toNat)) ∧
  (∀ r, (∀ j, j < 8 → B64 (r j)) → 0 ≤ idxI r (p.ins k) → idxI r (p.ins k) < J0g (p.log (p.ins k).c.toNat) → seqR pre r X.toNat = idxI r (p.ins k)) ∧
  (∀ L : Nat → Bool, (∀ j, 8 ≤ j → L j = false) → L (p.ins k).b.toNat = false → ∀ j, labs pre L j = true → j < 8 ∧ L j = true)
 ops : ∀ k, k < p.cl → ¬ ((p.ins k).op = 3 ∨ (p.ins k).op = 4) → ¬ ((p.ins k).op = 7 ∨ (p.ins k).op = 8) → ¬ ((p.ins k).op = 5 ∨ (p.ins k).op = 6 ∨ (p.ins k).op = 9 ∨ (p.ins k).op = 12 ∨ (p.ins k).op = 29 ∨ (p.ins k).op = 30) →
  (∀ i ∈ B k, StrI i) ∧ (∀ r, (∀ j, j < 8 → B64 (r j)) → ∀ j, j < 8 → seqR (B k) r j = (regsI r (p.ins k)).1 j) ∧ (∀ L : Nat → Bool, (∀ j, 8 ≤ j → L j = false) → ∀ j, labs (B k) L j = true → j < 8 ∧ J2b (p.ins k) L j = true)

section
variable {p h : Prg} {st : Nat → Nat} {B : Nat → List Ins} {X : Int} {l : KV}

theorem Blo.mono (S : Blo p h st B X) : ∀ (b a : Nat), a < b → b ≤ p.cl → st a + (B a).length ≤ st b
 | 0, a, h1, _ => absurd h1 (Nat.not_lt_zero _)
 | b + 1, a, h1, h2 => by
  have e := S.next b (by omega)
  by_cases q : a = b
  ·subst q; omega
  ·have := S.mono b a (by omega) (by omega); omega
theorem Blo.lt (S : Blo p h st B X) {k o : Nat} (hk : k < p.cl) (ho : o < (B k).length) : st k + o < h.cl := by
 have := S.mono p.cl k hk (Nat.le_refl _)
 rw [S.cl]; omega
variable {lab : Nat → Nat → Bool}
end
end
section
open Go.RowKit
set_option linter.unusedVariables false
def encW (i : Ins) : Int := (((i.op * 16 + i.a) * 16 + i.b) * 16 + i.c) * 16384 + (if i.n < 0 then i.n + 16384 else i.n)
abbrev N14 (n : Int) : Prop := -8192 ≤ n ∧ n ≤ 8191
def W32 (u : Int) : Prop := 0 ≤ u ∧ u < 4294967296
structure Small (i : Ins) : Prop where
 op : 0 ≤ i.op ∧ i.op < 64
 a : 0 ≤ i.a ∧ i.a < 16
 b : 0 ≤ i.b ∧ i.b < 16
 c : 0 ≤ i.c ∧ i.c < 16

theorem Jlc {rl : Nat} {log : Nat → Int} {cl : Nat} {i : Ins} (hrl : rl ≤ 6) (h : InsOk rl log cl 10 i) : Small i := by
 unfold InsOk Reg Rgn Plc Wrd at h
 by_cases h1 : i.op = 1
 ·rw [if_pos h1] at h; exact ⟨by omega, by omega, by omega, by omega⟩
 rw [if_neg h1] at h
 by_cases h2 : i.op = 2
 ·rw [if_pos h2] at h; exact ⟨by omega, by omega, by omega, by omega⟩
 rw [if_neg h2] at h
 by_cases h3 : i.op = 3
 ·rw [if_pos h3] at h; exact ⟨by omega, by omega, by omega, by omega⟩
 rw [if_neg h3] at h
 by_cases h4 : i.op = 4
 ·rw [if_pos h4] at h; exact ⟨by omega, by omega, by omega, by omega⟩
 rw [if_neg h4] at h
 by_cases h5 : i.op = 5
 ·rw [if_pos h5] at h; exact ⟨by omega, by omega, by omega, by omega⟩
 rw [if_neg h5] at h
 by_cases h6 : i.op = 6
 ·rw [if_pos h6] at h; exact ⟨by omega, by omega, by omega, by omega⟩
 rw [if_neg h6] at h
 by_cases h7 : i.op = 7
 ·rw [if_pos h7] at h; exact ⟨by omega, by omega, by omega, by omega⟩
 rw [if_neg h7] at h
 by_cases h8 : i.op = 8
 ·rw [if_pos h8] at h; exact ⟨by omega, by omega, by omega, by omega⟩
 rw [if_neg h8] at h
 by_cases h9 : i.op = 9
 ·rw [if_pos h9] at h; exact ⟨by omega, by omega, by omega, by omega⟩
 rw [if_neg h9] at h
 by_cases h10 : i.op = 10
 ·rw [if_pos h10] at h; exact ⟨by omega, by omega, by omega, by omega⟩
 rw [if_neg h10] at h
 by_cases h11 : i.op = 11
 ·rw [if_pos h11] at h; exact ⟨by omega, by omega, by omega, by omega⟩
 rw [if_neg h11] at h
 by_cases h12 : i.op = 12
 ·rw [if_pos h12] at h; exact ⟨by omega, by omega, by omega, by omega⟩
 rw [if_neg h12] at h
 exact ⟨by omega, by omega, by omega, by omega⟩

def PutR (p : Prg) (f : Int × Int) : Prop :=
 (¬ p.Ok 8000 10 ∧ f = (2, 0)) ∨ (p.Ok 8000 10 ∧ ∃ k : Nat, k < p.cl ∧ (∀ j, j < k → N14 (p.ins j).n) ∧ ¬ N14 (p.ins k).n ∧ f = (3, (k : Int))) ∨ (p.Ok 8000 10 ∧ (∀ j, j < p.cl → N14 (p.ins j).n) ∧ f = (0, 0))
theorem PutR.one {p : Prg} {f g : Int × Int} (h : PutR p f) (k : PutR p g) : f = g := by
 rcases h with ⟨h1, rfl⟩ | ⟨h1, a, h2, h3, h4, rfl⟩ | ⟨h1, h2, rfl⟩
 ·rcases k with ⟨_, rfl⟩ | ⟨k1, _⟩ | ⟨k1, _⟩
  ·rfl
  ·exact absurd k1 h1
  ·exact absurd k1 h1
 ·rcases k with ⟨k1, _⟩ | ⟨_, b, k2, k3, k4, rfl⟩ | ⟨_, k2, _⟩
  ·exact absurd h1 k1
  ·rcases Nat.lt_trichotomy a b with q | q | q
   ·exact absurd (k3 a q) h4
   ·rw [q]
   ·exact absurd (h3 b q) k4
  ·exact absurd (k2 a h2) h4
 ·rcases k with ⟨k1, _⟩ | ⟨_, b, k2, k3, k4, rfl⟩ | ⟨_, k2, rfl⟩
  ·exact absurd h1 k1
  ·exact absurd (h2 b k2) k4
  ·rfl
def J7d (w : World) (b o n : Nat) (f : Nat → Int) : Prop := ∀ i, i < n → w.cell? ⟨b, o + i, none⟩ = some (.int .u32 (f i))
end
section
open Go.RowKit
set_option linter.unusedSimpArgs false
set_option linter.unusedVariables false
def J11 (a : Int) : Nat → Int → List Ins
 | 0, n => [⟨1, a, 0, 0, n⟩]
 | f + 1, n => if N14 n then [⟨1, a, 0, 0, n⟩] else J11 a f (n / 8192) ++ [⟨27, a, a, 9, 0⟩, ⟨10, a, a, 0, n % 8192⟩]
def numL (a n : Int) : List Ins := ⟨1, 9, 0, 0, 13⟩ :: J11 a 4 n
def fitL (i : Ins) : List Ins := if N14 i.n then [i] else if i.op = 1 then numL i.a i.n else if i.op = 10 then numL 8 i.n ++ [⟨21, i.a, i.b, 8, 0⟩] else [i]
abbrev fitK (q : Prg) (n : Nat) : List Ins := fitL (q.ins n)
def fitP (q : Prg) : Prg := ⟨q.rl, q.log, q.sec, J0f (fitK q) q.cl, hardG (fitK q) q.cl⟩

theorem J1z (q : Prg) (n : Nat) : J0f (fitK q) (n + 1) = J0f (fitK q) n + (fitL (q.ins n)).length := J8c _ n
theorem J1w {i : Ins} (h1 : ¬ i.op = 1) (h2 : ¬ i.op = 10) : fitL i = [i] := by unfold fitL; simp [h1, h2]

theorem J7w {P : Ins → Prop} {a : Int} (h1 : ∀ n, P ⟨1, a, 0, 0, n⟩) (h2 : P ⟨27, a, a, 9, 0⟩) (h3 : ∀ n, P ⟨10, a, a, 0, n⟩) : ∀ (f : Nat) (n : Int), ∀ i ∈ J11 a f n, P i
 | 0, n, i, hi => by simp [J11] at hi; subst hi; exact h1 n
 | f + 1, n, i, hi => by
  unfold J11 at hi
  split at hi
  ·simp at hi; subst hi; exact h1 n
  ·simp at hi
   rcases hi with hi | rfl | rfl
   ·exact J7w h1 h2 h3 f _ i hi
   ·exact h2
   ·exact h3 _
def lim : Nat → Int
 | 0 => 8192
 | f + 1 => lim f * 8192
theorem J9b (a : Int) : ∀ (f : Nat) (n : Int), -lim f ≤ n → n < lim f → ∀ i ∈ J11 a f n, N14 i.n
 | 0, n, h1, h2, i, hi => by simp only [lim] at h1 h2; simp [J11] at hi; subst hi; unfold N14; dsimp only; omega
 | f + 1, n, h1, h2, i, hi => by
  unfold J11 at hi
  split at hi
  ·simp at hi; subst hi; assumption
  ·simp only [lim] at h1 h2
   simp at hi
   rcases hi with hi | rfl | rfl
   ·exact J9b a f _ (by omega) (by omega) i hi
   ·unfold N14; dsimp only; omega
   ·unfold N14; dsimp only; omega
theorem lim4 {n : Int} (h : B64 n) : -lim 4 ≤ n ∧ n < lim 4 := by
 unfold B64 at h
 simp only [lim]
 omega
theorem J7x (a : Int) : ∀ (f : Nat) (n : Int), 1 ≤ (J11 a f n).length ∧ (J11 a f n).length ≤ 1 + 2 * f
 | 0, n => by simp [J11]
 | f + 1, n => by
  unfold J11
  split
  ·simp
  ·have := J7x a f (n / 8192)
   simp; omega
theorem Jgl (r : Nat → Int) (a x y : Int) : setR (setR r a x) a y = setR r a y := by
 funext j; unfold setR; split <;> rfl
theorem Jdi (r : Nat → Int) (a x : Int) : setR r a x a.toNat = x := by unfold setR; rw [if_pos rfl]
theorem Jdj (r : Nat → Int) (a x : Int) {j : Nat} (h : ¬ j = a.toNat) : setR r a x j = r j := by unfold setR; rw [if_neg h]
theorem shl13 {n : Int} (h : B64 n) : wrap64 (opI 7 (n / 8192) 13 + n % 8192) = n := by
 unfold B64 at h
 unfold opI toU wrap64
 simp
 omega
theorem Jbt {a : Int} (ha : ¬ 9 = a.toNat) : ∀ (f : Nat) (n : Int), B64 n → ∀ r : Nat → Int, r 9 = 13 → seqR (J11 a f n) r = setR r a n
 | 0, n, h, r, h9 => by simp [J11, seqR, regsI]
 | f + 1, n, h, r, h9 => by
  unfold J11
  split
  ·simp [seqR, regsI]
  ·rw [J2e, Jbt ha f _ (by unfold B64 at *; omega) r h9]
   simp [seqR, regsI, Jgl, Jdi]
   rw [Jdj _ _ _ ha, h9, shl13 h]
theorem J9c {a : Int} (ha : ¬ 9 = a.toNat) : ∀ (f : Nat) (n : Int) (L : Nat → Bool), L 9 = false → ∀ j, labs (J11 a f n) L j = if j = a.toNat then false else L j
 | 0, n, L, h9, j => by simp [J11, labs, J2b]
 | f + 1, n, L, h9, j => by
  unfold J11
  split
  ·simp [labs, J2b]
  ·rw [J3t]
   have h := J9c ha f (n / 8192) L h9
   simp [labs, J2b, h, h9]

theorem Ji6 {a : Int} (ha : ¬ 9 = a.toNat) {n : Int} (h : B64 n) (r : Nat → Int) : seqR (numL a n) r = setR (setR r 9 13) a n := by
 unfold numL
 simp only [seqR]
 rw [Jbt ha 4 n h]
 ·simp [regsI]
 ·simp [regsI, setR]
theorem Jez {a : Int} (ha : ¬ 9 = a.toNat) (n : Int) (L : Nat → Bool) (j : Nat) : labs (numL a n) L j = if j = a.toNat then false else if j = 9 then false else L j := by
 unfold numL
 simp only [labs]
 rw [J9c ha 4 n _ (by simp [J2b])]
 simp [J2b]
theorem Ja8 {a : Int} (ha : a.toNat < 10) (n : Int) : ∀ i ∈ numL a n, StrI i := by
 intro i hi
 unfold numL at hi
 rcases List.mem_cons.1 hi with rfl | hi
 ·unfold StrI; simp
 ·exact J7w (P := StrI) (fun n => ⟨by simp, ha, by simp, by simp⟩) ⟨by simp, ha, ha, by simp⟩ (fun n => ⟨by simp, ha, ha, by simp⟩) 4 n i hi
theorem Jdc (a n : Int) : 1 ≤ (numL a n).length ∧ (numL a n).length ≤ 10 := by
 have := J7x a 4 n
 unfold numL; simp; omega
theorem J9v (i : Ins) : 1 ≤ (fitL i).length ∧ (fitL i).length ≤ 11 := by
 unfold fitL
 split
 ·simp
 split
 ·have := Jdc i.a i.n; omega
 split
 ·have := Jdc 8 i.n; simp; omega
 ·simp

theorem Jn9 {i : Ins} (h1 : i.op = 1) (ha : i.a.toNat < 8) (hn : B64 i.n) (r : Nat → Int) {j : Nat} (hj : j < 8) : seqR (fitL i) r j = setR r i.a i.n j := by
 unfold fitL
 split
 ·simp [seqR, regsI, h1]
 ·rw [Ji6 (by omega) hn]
  unfold setR
  simp
  split
  ·rfl
  ·rw [if_neg (by omega)]
theorem Jla {i : Ins} (h1 : i.op = 1) (ha : i.a.toNat < 8) (L : Nat → Bool) (h9 : L 9 = false) (j : Nat) : labs (fitL i) L j = if j = i.a.toNat then false else L j := by
 unfold fitL
 split
 ·simp [labs, J2b, h1]
 ·rw [Jez (by omega)]
  split
  ·rfl
  ·split
   ·rename_i e; rw [e, h9]
   ·rfl
theorem Jgy {i : Ins} (h1 : i.op = 10) (hb : i.b.toNat < 8) (hn : B64 i.n) (r : Nat → Int) {j : Nat} (hj : j < 8 ∨ j = i.a.toNat) : seqR (fitL i) r j = setR r i.a (wrap64 (r i.b.toNat + i.n)) j := by
 unfold fitL
 split
 ·simp [seqR, regsI, h1]
 ·rw [if_neg (by omega), J2e, Ji6 (by decide) hn]
  simp [seqR, regsI]
  by_cases e : j = i.a.toNat
  ·rw [e, Jdi, Jdi]
   unfold opI
   simp [setR]
   rw [if_neg (by omega), if_neg (by omega)]
  ·rw [Jdj _ _ _ e, Jdj _ _ _ e]
   unfold setR
   simp
   rw [if_neg (by omega), if_neg (by omega)]
theorem Jea {i : Ins} (h1 : i.op = 10) (hb : i.b.toNat < 8) (L : Nat → Bool) (hL : ∀ j, 8 ≤ j → L j = false) (j : Nat) : labs (fitL i) L j = if j = i.a.toNat then L i.b.toNat else L j := by
 have h8 := hL 8 (by omega)
 have h9 := hL 9 (by omega)
 unfold fitL
 split
 ·simp [labs, J2b, h1]
 ·rw [if_neg (by omega), J3t]
  simp only [labs, J2b]
  have e := Jez (a := 8) (by decide) i.n L
  simp [e]
  split
  ·simp [show ¬ i.b.toNat = 8 by omega, show ¬ i.b.toNat = 9 by omega]
  ·by_cases q8 : j = 8
   ·simp [q8, h8]
   ·by_cases q9 : j = 9
    ·simp [q9, h9]
    ·simp [q8, q9]
theorem J5u {i : Ins} (h : StrI i) : ∀ x ∈ fitL i, StrI x := by
 intro x hx
 unfold fitL at hx
 split at hx
 ·simp at hx; subst hx; exact h
 split at hx
 ·exact Ja8 h.2.1 _ x hx
 split at hx
 ·rcases List.mem_append.1 hx with hx | hx
  ·exact Ja8 (by decide) _ x hx
  ·simp at hx; subst hx
   exact ⟨by simp, h.2.1, h.2.2.1, by simp⟩
 ·simp at hx; subst hx; exact h

section
variable (p : Prg)
def stF (k : Nat) : Nat := J0f (fitK (hardP p)) (J0c p k)
def fitB (k : Nat) : List Ins :=
 if (p.ins k).op = 3 ∨ (p.ins k).op = 4 then fitL ⟨10, 8, (p.ins k).b, 0, (p.ins k).n⟩ ++ [⟨11, 8, 0, 0, J0g (p.log (p.ins k).c.toNat)⟩, ⟨(p.ins k).op, (p.ins k).a, 8, (p.ins k).c, 0⟩]
 else if (p.ins k).op = 7 ∨ (p.ins k).op = 8 then [⟨(p.ins k).op, (p.ins k).a, (p.ins k).b, (p.ins k).c, (stF p (p.ins k).n.toNat : Int)⟩]
 else fitL (p.ins k)
end
section
variable {p : Prg} {k : Nat}
theorem J77 (h : (p.ins k).op = 3 ∨ (p.ins k).op = 4) : fitB p k = fitL ⟨10, 8, (p.ins k).b, 0, (p.ins k).n⟩ ++ [⟨11, 8, 0, 0, J0g (p.log (p.ins k).c.toNat)⟩, ⟨(p.ins k).op, (p.ins k).a, 8, (p.ins k).c, 0⟩] := by unfold fitB; rw [if_pos h]
theorem J9u (h : (p.ins k).op = 7 ∨ (p.ins k).op = 8) : fitB p k = [⟨(p.ins k).op, (p.ins k).a, (p.ins k).b, (p.ins k).c, (stF p (p.ins k).n.toNat : Int)⟩] := by unfold fitB; rw [if_neg (by omega), if_pos h]
theorem J4b (h : ¬ ((p.ins k).op = 3 ∨ (p.ins k).op = 4)) (h2 : ¬ ((p.ins k).op = 7 ∨ (p.ins k).op = 8)) : fitB p k = fitL (p.ins k) := by unfold fitB; rw [if_neg h, if_neg h2]
theorem fitB_len : 1 ≤ (fitB p k).length ∧ (fitB p k).length ≤ 13 := by
 unfold fitB
 split
 ·have := J9v ⟨10, 8, (p.ins k).b, 0, (p.ins k).n⟩; simp; omega
 split
 ·simp
 ·have := J9v (p.ins k); omega

theorem Jf4 (hk : k < p.cl) : stF p (k + 1) = stF p k + (fitB p k).length := by
 have S := J5w p
 unfold stF
 rw [J2v]
 by_cases m : (p.ins k).op = 3 ∨ (p.ins k).op = 4
 ·obtain ⟨m0, m1, m2⟩ := S.mem k hk m
  rw [J65 m, J1z, J1z, J1z, m0, m1, m2, J77 m, J1w (i := ⟨11, _, _, _, _⟩) (by simp) (by simp), J1w (i := ⟨(p.ins k).op, _, _, _, _⟩) (by dsimp only; omega) (by dsimp only; omega)]
  simp
  omega
 ·rw [J4o m, J1z]
  by_cases w : (p.ins k).op = 7 ∨ (p.ins k).op = 8
  ·rw [S.go k hk w, J9u w, J1w (by dsimp only; omega) (by dsimp only; omega)]; rfl
  ·rw [S.copy k hk m w, J4b m w]
theorem Jel {q : Prg} {m o : Nat} {i : Ins} (hm : m < q.cl) (e : (fitL (q.ins m))[o]? = some i) (h7 : ¬ (i.op = 7 ∨ i.op = 8)) : (fitP q).ins (J0f (fitK q) m + o) = i := by
 show hardG (fitK q) q.cl (J0f (fitK q) m + o) = i
 rw [Ja1 _ hm e, J2n _ h7]
theorem str78 {i : Ins} (h : StrI i) : ¬ (i.op = 7 ∨ i.op = 8) := by
 have := h.1
 omega

theorem Jhg (ok : p.Ok 200 8) (hk : k < p.cl) (o : Nat) (i : Ins) (e : (fitB p k)[o]? = some i) : (fitP (hardP p)).ins (stF p k + o) = i := by
 have S := J5w p
 have hlt : ∀ o, o < sizeK p k → J0c p k + o < (hardP p).cl := fun o ho => S.lt hk ho
 have hi := ok.2.2.2 k hk
 by_cases m : (p.ins k).op = 3 ∨ (p.ins k).op = 4
 ·obtain ⟨m0, m1, m2⟩ := S.mem k hk m
  have hs := J65 m
  have hr : Reg 8 (p.ins k).b := by unfold InsOk at hi; rcases m with m | m <;> simp [m] at hi <;> exact hi.2.1
  unfold Reg at hr
  rw [J77 m] at e
  have l0 : (fitL ((hardP p).ins (J0c p k))) = fitL ⟨10, 8, (p.ins k).b, 0, (p.ins k).n⟩ := by rw [m0]
  have n0 := J1z (hardP p) (J0c p k)
  rw [l0] at n0
  have l1 : fitL ((hardP p).ins (J0c p k + 1)) = [⟨11, 8, 0, 0, J0g (p.log (p.ins k).c.toNat)⟩] := by rw [m1]; exact J1w (by simp) (by simp)
  have n1 := J1z (hardP p) (J0c p k + 1)
  rw [l1] at n1
  have l2 : fitL ((hardP p).ins (J0c p k + 2)) = [⟨(p.ins k).op, (p.ins k).a, 8, (p.ins k).c, 0⟩] := by rw [m2]; exact J1w (by dsimp only; omega) (by dsimp only; omega)
  unfold stF
  by_cases c : o < (fitL ⟨10, 8, (p.ins k).b, 0, (p.ins k).n⟩).length
  ·rw [List.getElem?_append_left c] at e
   refine Jel (hlt 0 (by omega)) (by rw [l0]; exact e) (str78 (J5u ?_ i (List.mem_of_getElem? e)))
   exact ⟨by simp, by simp, by dsimp only; omega, by simp⟩
  ·rw [List.getElem?_append_right (by omega)] at e
   generalize hd : o - (fitL ⟨10, 8, (p.ins k).b, 0, (p.ins k).n⟩).length = d at e
   match d, e with
   | 0, e =>
    obtain rfl := Option.some.inj e
    have := Jel (o := 0) (hlt 1 (by omega)) (by rw [l1]; rfl) (by simp)
    rw [n0] at this
    rw [show J0f (fitK (hardP p)) (J0c p k) + o = J0f (fitK (hardP p)) (J0c p k) + (fitL ⟨10, 8, (p.ins k).b, 0, (p.ins k).n⟩).length + 0 by omega]
    exact this
   | 1, e =>
    obtain rfl := Option.some.inj e
    have := Jel (o := 0) (hlt 2 (by omega)) (by rw [l2]; rfl) (by dsimp only; omega)
    rw [show J0c p k + 2 = J0c p k + 1 + 1 by omega, n1, n0] at this
    rw [show J0f (fitK (hardP p)) (J0c p k) + o = J0f (fitK (hardP p)) (J0c p k) + (fitL ⟨10, 8, (p.ins k).b, 0, (p.ins k).n⟩).length + 1 + 0 by omega]
    exact this
   | d + 2, e => simp at e
 ·have hs := J4o m
  by_cases w : (p.ins k).op = 7 ∨ (p.ins k).op = 8
  ·rw [J9u w] at e
   have h1 := S.go k hk w
   have l0 : fitL ((hardP p).ins (J0c p k)) = [⟨(p.ins k).op, (p.ins k).a, (p.ins k).b, (p.ins k).c, (J0c p (p.ins k).n.toNat : Int)⟩] := by rw [h1]; exact J1w (by dsimp only; omega) (by dsimp only; omega)
   match o, e with
   | 0, e =>
    obtain rfl := Option.some.inj e
    have := Ja1 (fitK (hardP p)) (o := 0) (hlt 0 (by omega)) (by show (fitL ((hardP p).ins (J0c p k)))[0]? = _; rw [l0]; rfl)
    refine this.trans ?_
    unfold leadG stF
    rw [if_pos w]
    simp
   | o + 1, e => simp at e
  ·rw [J4b m w] at e
   have h1 := S.copy k hk m w
   refine Jel (hlt 0 (by omega)) (by rw [h1]; exact e) ?_
   unfold fitL at e
   split at e
   ·simp [List.getElem?_singleton] at e; rw [← e.2]; exact w
   split at e
   ·refine str78 (Ja8 ?_ _ i (List.mem_of_getElem? e))
    rename_i q; unfold InsOk Reg at hi; rw [if_pos q] at hi; omega
   split at e
   ·refine str78 ?_
    rcases List.mem_append.1 (List.mem_of_getElem? e) with hx | hx
    ·exact Ja8 (by decide) _ i hx
    ·simp at hx; subst hx
     rename_i q; unfold InsOk Reg at hi; simp [q] at hi
     exact ⟨by simp, by dsimp only; omega, by dsimp only; omega, by simp⟩
   ·simp [List.getElem?_singleton] at e; rw [← e.2]; exact w

theorem Jmk (ok : p.Ok 200 8) (hf : p.Fit) : Blo p (fitP (hardP p)) (stF p) (fitB p) 8 := by
 refine ⟨.inl rfl, rfl, fun i hi => ⟨rfl, rfl⟩, rfl, fun k hk => Jf4 hk, rfl, fun k hk => fitB_len.1, fun k hk => Jhg ok hk, fun k hk h => J9u h, fun k hk h => ?_, fun k hk m => ?_, fun k hk h1 h2 h3 => ?_⟩
 ·rw [J4b (by omega) (by omega), J1w (by omega) (by omega)]
 ·have hi := ok.2.2.2 k hk
  have hn : B64 (p.ins k).n := (hf.ins k hk).2.2.2.2
  have hr : Reg 8 (p.ins k).b ∧ Rgn p.rl (p.ins k).c := by unfold InsOk at hi; rcases m with m | m <;> simp [m] at hi <;> exact hi.2
  obtain ⟨hb, hc⟩ := hr
  unfold Reg at hb
  unfold Rgn at hc
  have hl := ok.1.2 (p.ins k).c.toNat (by omega)
  have hw : 1 ≤ J0g (p.log (p.ins k).c.toNat) := (J2f (by omega)).1
  have sq : ∀ r j, j < 8 ∨ j = 8 → seqR (fitL ⟨10, 8, (p.ins k).b, 0, (p.ins k).n⟩) r j = setR r 8 (wrap64 (r (p.ins k).b.toNat + (p.ins k).n)) j := fun r j hj => Jgy (i := ⟨10, 8, (p.ins k).b, 0, (p.ins k).n⟩) rfl (by dsimp only; omega) hn r hj
  have s8 : ∀ r, seqR (fitL ⟨10, 8, (p.ins k).b, 0, (p.ins k).n⟩) r 8 = wrap64 (r (p.ins k).b.toNat + (p.ins k).n) := fun r => by rw [sq r 8 (.inr rfl)]; rfl
  generalize hW : J0g (p.log (p.ins k).c.toNat) = W at hw
  have ix : ∀ r, idxI r (p.ins k) = wrap64 (r (p.ins k).b.toNat + (p.ins k).n) := fun r => by unfold idxI; rw [if_neg (by omega)]
  have m8 : ∀ r, seqR [⟨11, 8, 0, 0, W⟩] r 8 = if r 8 < 0 ∨ W ≤ r 8 then 0 else r 8 := fun r => by
   simp [seqR, regsI]
   split
   ·simp [setR]
   ·rfl
  have mj : ∀ r j, j < 8 → seqR [⟨11, 8, 0, 0, W⟩] r j = r j := fun r j hj => by
   simp [seqR, regsI]
   split
   ·unfold setR; simp; omega
   ·rfl
  refine ⟨fitL ⟨10, 8, (p.ins k).b, 0, (p.ins k).n⟩ ++ [⟨11, 8, 0, 0, W⟩], ?_, fun i hi => ?_, fun r j hj => ?_, fun r => ?_, fun r _ h0 h1 => ?_, fun L hL hb0 j hj => ?_⟩
  ·rw [J77 m, hW]; simp
  ·rcases List.mem_append.1 hi with h | h
   ·exact J5u ⟨by simp, by simp, by dsimp only; omega, by simp⟩ i h
   ·simp at h; subst h; exact ⟨by simp, by simp, by simp, by simp⟩
  ·rw [J2e, mj _ _ hj, sq r j (.inl hj)]
   unfold setR; simp; omega
  ·rw [J2e]
   show 0 ≤ seqR _ _ 8 ∧ seqR _ _ 8 < W
   rw [m8]
   split <;> omega
  ·rw [J2e]
   show seqR _ _ 8 = _
   rw [m8, s8, ← ix]
   rw [if_neg (by omega)]
  ·rw [J3t] at hj
   have e := Jea (i := ⟨10, 8, (p.ins k).b, 0, (p.ins k).n⟩) rfl (by dsimp only; omega) L hL
   simp only [labs, J2b] at hj
   simp [e] at hj
   by_cases q : j = 8
   ·simp [q, hb0] at hj
   ·simp [q] at hj
    refine ⟨?_, hj⟩
    rcases Nat.lt_or_ge j 8 with c | c
    ·exact c
    ·rw [hL j c] at hj; cases hj
 ·have hi := ok.2.2.2 k hk
  have hn : B64 (p.ins k).n := (hf.ins k hk).2.2.2.2
  have hg := J5k hi
  rw [J4b h1 h2]
  have hI := hi
  unfold InsOk Reg at hI
  have lowL : ∀ (L : Nat → Bool), (∀ j, 8 ≤ j → L j = false) → (p.ins k).a.toNat < 8 → ∀ j, J2b (p.ins k) L j = true → j < 8 ∧ J2b (p.ins k) L j = true := fun L hL ha j hj => by
   refine ⟨?_, hj⟩
   rcases Nat.lt_or_ge j 8 with c | c
   ·exact c
   ·unfold J2b at hj
    rw [if_neg (by omega), hL j c] at hj; cases hj
  have single : StrI (p.ins k) → (p.ins k).a.toNat < 8 → fitL (p.ins k) = [p.ins k] → (∀ i ∈ fitL (p.ins k), StrI i) ∧ (∀ r, (∀ j, j < 8 → B64 (r j)) → ∀ j, j < 8 → seqR (fitL (p.ins k)) r j = (regsI r (p.ins k)).1 j) ∧ (∀ L : Nat → Bool, (∀ j, 8 ≤ j → L j = false) → ∀ j, labs (fitL (p.ins k)) L j = true → j < 8 ∧ J2b (p.ins k) L j = true) := fun hs ha e => by
   rw [e]
   exact ⟨fun i h => by simp at h; subst h; exact hs, fun r _ j _ => rfl, fun L hL j hj => lowL L hL ha j hj⟩
  by_cases q1 : (p.ins k).op = 1
  ·rw [if_pos q1] at hI
   refine ⟨J5u ⟨.inl q1, by omega, by omega, by omega⟩, fun r _ j hj => ?_, fun L hL j hj => ?_⟩
   ·rw [Jn9 q1 (by omega) hn r hj]; unfold regsI; rw [if_pos q1]
   ·rw [Jla q1 (by omega) L (hL 9 (by omega))] at hj
    have e : J2b (p.ins k) L j = if j = (p.ins k).a.toNat then false else L j := by unfold J2b; rw [if_pos q1]
    exact lowL L hL (by omega) j (e.trans hj)
  ·rw [if_neg q1] at hI
   by_cases q10 : (p.ins k).op = 10
   ·simp [q10] at hI
    refine ⟨J5u ⟨by omega, by omega, by omega, by omega⟩, fun r _ j hj => ?_, fun L hL j hj => ?_⟩
    ·rw [Jgy q10 (by omega) hn r (.inl hj)]; unfold regsI; rw [if_neg (by omega), if_neg (by omega), if_pos q10]
    ·rw [Jea q10 (by omega) L hL] at hj
     have e : J2b (p.ins k) L j = if j = (p.ins k).a.toNat then L (p.ins k).b.toNat else L j := by unfold J2b; simp [q10]
     exact lowL L hL (by omega) j (e.trans hj)
   ·have e := J1w q1 q10
    by_cases q2 : (p.ins k).op = 2
    ·rw [if_pos q2] at hI
     exact single ⟨.inr (.inl q2), by omega, by omega, by omega⟩ (by omega) e
    by_cases q11 : (p.ins k).op = 11
    ·simp [q11] at hI
     exact single ⟨by omega, by omega, by omega, by omega⟩ (by omega) e
    ·rw [if_neg q2, if_neg (by omega), if_neg (by omega), if_neg (by omega), if_neg (by omega), if_neg (by omega), if_neg (by omega), if_neg (by omega), if_neg q10, if_neg q11, if_neg (by omega)] at hI
     exact single ⟨by omega, by omega, by omega, by omega⟩ (by omega) e
end
theorem Jec (len : Nat → Nat) {c c' i i' : Nat} (hi : i < len c) (hi' : i' < len c') (h : baseN len c + i = baseN len c' + i') : c = c' ∧ i = i' := by
 rcases Nat.lt_trichotomy c c' with h1 | h1 | h1
 ·have := J3e len (c + 1) c' h1
  simp only [baseN] at this
  omega
 ·subst h1; exact ⟨rfl, by omega⟩
 ·have := J3e len (c' + 1) c h1
  simp only [baseN] at this
  omega

theorem J5d {s : Sp} (h : s.ahead = true) : s.leave = s := by unfold Sp.leave; rw [if_pos h]

theorem Je1 (p : Prg) (s : Sp) (i : Ins) (n : Int) (h : s.ahead = true) : (wordS p s i n).ahead = true ∧ (wordS p s i n).back = s.back := by
 unfold wordS
 split
 ·split
  ·exact ⟨h, rfl⟩
  ·exact ⟨h, rfl⟩
 ·split
  ·exact ⟨h, rfl⟩
  ·split
   ·rw [J5d (by exact h)]
    exact ⟨h, rfl⟩
   ·exact ⟨h, rfl⟩

theorem Jgp (p : Prg) (s : Sp) (h : s.ahead = true) : (stepS p s).2.2 = none ∧ (stepS p s).1.ahead = true ∧ (stepS p s).1.back = s.back := by
 unfold stepS
 by_cases h7 : (p.ins s.pl.at_).op = 7
 ·rw [if_pos h7]; exact ⟨rfl, h, rfl⟩
 rw [if_neg h7]
 by_cases h8 : (p.ins s.pl.at_).op = 8
 ·rw [if_pos h8]
  by_cases hh : J1f (p.ins s.pl.at_).c (s.pl.r (p.ins s.pl.at_).a.toNat) (s.pl.r (p.ins s.pl.at_).b.toNat) = true
  ·rw [if_pos hh]
   by_cases hc : s.choice = 0
   ·rw [if_pos hc]; exact ⟨rfl, h, rfl⟩
   ·rw [if_neg hc, J5d (by exact h)]; exact ⟨rfl, h, rfl⟩
  ·rw [if_neg hh]
   by_cases hc : s.choice = 0
   ·rw [if_pos hc]; exact ⟨rfl, h, rfl⟩
   ·rw [if_neg hc, J5d (by exact h)]; exact ⟨rfl, h, rfl⟩
 rw [if_neg h8, if_neg (by rw [h]; simp)]
 by_cases h9 : (p.ins s.pl.at_).op = 9 ∨ (p.ins s.pl.at_).op = 12
 ·rw [if_pos h9]; exact ⟨rfl, h, rfl⟩
 rw [if_neg h9]
 by_cases hp : 0 ≤ putI (p.ins s.pl.at_)
 ·rw [if_pos hp, if_neg (by rw [h]; simp)]
  exact ⟨rfl, Je1 p _ _ _ h⟩
 ·rw [if_neg hp]; exact ⟨rfl, h, rfl⟩

theorem J8r {s : Sp} {cl : Nat} (h : cl ≤ (s.noneLeft cl).pl.at_) : (s.noneLeft cl).ahead = false := by
 unfold Sp.noneLeft at h ⊢
 by_cases hc : cl ≤ s.pl.at_ ∧ s.ahead = true
 ·rw [if_pos hc]; rfl
 ·rw [if_neg hc] at h ⊢
  cases ha : s.ahead with
  | false => rfl
  | true => exact absurd ⟨h, ha⟩ hc
theorem J98 (s : Sp) : s.leave.seen = s.seen := by unfold Sp.leave; split <;> rfl
def numS (p : Prg) (s : Sp) (i : Ins) : Int := wrap64 (baseI p.log i.c.toNat + idxI s.pl.r i)
def Sp.on (s : Sp) : Sp := (s.see ⟨1, s.pl.at_, 0⟩).go (s.pl.at_ + 1)

theorem J6n {p : Prg} {s : Sp} {i : Ins} (hI : p.ins s.pl.at_ = i) (h : i.op = 7) : stepS p s = ((s.see ⟨1, s.pl.at_, 0⟩).go i.n.toNat, false, none) := by
 subst hI; unfold stepS; rw [if_pos h]
theorem Jan {p : Prg} {s : Sp} {i : Ins} (hI : p.ins s.pl.at_ = i) (h : i.op = 8) (hh : Bool) (hhh : J1f i.c (s.pl.r i.a.toNat) (s.pl.r i.b.toNat) = hh) (right wrong : Nat) (hr : right = if hh = true then i.n.toNat else s.pl.at_ + 1) (hw : wrong = if hh = true then s.pl.at_ + 1 else i.n.toNat) :
  stepS p s = (if s.choice = 0 then { (s.see ⟨1, s.pl.at_, 0⟩).go right with script := s.script.tail } else ({ (s.see ⟨1, s.pl.at_, 0⟩).go right with script := s.script.tail }.leave).go wrong, false, none) := by
 subst hI
 unfold stepS
 rw [if_neg (by omega), if_pos h]
 cases hh with
 | true => rw [if_pos hhh]; subst hr hw; rfl
 | false => rw [if_neg (by rw [hhh]; decide)]; subst hr hw; rfl
theorem J6m {p : Prg} {s : Sp} {i : Ins} (hI : p.ins s.pl.at_ = i) (h : i.op = 9) (ha : s.ahead = false) : stepS p s = (s.see ⟨1, s.pl.at_, 0⟩, false, some (1, s.pl.r i.a.toNat)) := by
 subst hI; unfold stepS; rw [if_neg (by omega), if_neg (by omega), if_pos ⟨h, ha⟩]
theorem J2o {p : Prg} {s : Sp} {i : Ins} (hI : p.ins s.pl.at_ = i) (h : (i.op = 9 ∧ s.ahead = true) ∨ i.op = 12) : stepS p s = (s.on, true, none) := by
 subst hI
 unfold stepS Sp.on
 rw [if_neg (by omega), if_neg (by omega)]
 have h1 : ¬ ((p.ins s.pl.at_).op = 9 ∧ s.ahead = false) := by
  rintro ⟨h1, h2⟩
  rcases h with ⟨_, h3⟩ | h3
  ·rw [h2] at h3; cases h3
  ·omega
 rw [if_neg h1, if_pos (by omega)]
theorem J41 {p : Prg} {s : Sp} {i : Ins} (hI : p.ins s.pl.at_ = i) (h : i.op = 3 ∨ i.op = 4 ∨ i.op = 5 ∨ i.op = 6) (ha : s.ahead = false) (hx : idxI s.pl.r i < 0 ∨ J0g (p.log i.c.toNat) ≤ idxI s.pl.r i) : stepS p s = (s.see ⟨1, s.pl.at_, 0⟩, false, some (2, 0)) := by
 subst hI
 have hp : 0 ≤ putI (p.ins s.pl.at_) := by
  rcases h with h | h | h | h
  ·rw [J4i (.inl h)]; decide
  ·rw [J5z (.inl h)]; decide
  ·rw [J4i (.inr h)]; decide
  ·rw [J5z (.inr h)]; decide
 unfold stepS
 rw [if_neg (by omega), if_neg (by omega), if_neg (by omega), if_neg (by omega), if_pos hp, if_pos ⟨ha, hx⟩]
theorem J4z {p : Prg} {s : Sp} {i : Ins} (hI : p.ins s.pl.at_ = i) (h : i.op = 3 ∨ i.op = 4 ∨ i.op = 5 ∨ i.op = 6) (hx : ¬ (s.ahead = false ∧ (idxI s.pl.r i < 0 ∨ J0g (p.log i.c.toNat) ≤ idxI s.pl.r i))) :
  stepS p s = (wordS p (s.on.see ⟨2, numS p s i, putI i⟩) i (numS p s i), false, none) := by
 subst hI
 have hp : 0 ≤ putI (p.ins s.pl.at_) := by
  rcases h with h | h | h | h
  ·rw [J4i (.inl h)]; decide
  ·rw [J5z (.inl h)]; decide
  ·rw [J4i (.inr h)]; decide
  ·rw [J5z (.inr h)]; decide
 unfold stepS
 rw [if_neg (by omega), if_neg (by omega), if_neg (by omega), if_neg (by omega), if_pos hp, if_neg hx]
 rfl
theorem J6o {p : Prg} {s : Sp} {i : Ins} (hI : p.ins s.pl.at_ = i) (h3 : ¬ i.op = 3) (h4 : ¬ i.op = 4) (h5 : ¬ i.op = 5) (h6 : ¬ i.op = 6) (h7 : ¬ i.op = 7) (h8 : ¬ i.op = 8) (h9 : ¬ i.op = 9) (h12 : ¬ i.op = 12) :
  stepS p s = ({ s.on with pl := { s.on.pl with r := (regsI s.pl.r i).1 }, seen := s.on.seen ++ (regsI s.pl.r i).2 }, false, none) := by
 subst hI
 have hp := Jn6 h3 h4 h5 h6
 unfold stepS
 rw [if_neg h7, if_neg h8, if_neg (by omega), if_neg (by omega), if_neg (by rw [hp]; decide)]
 rfl

structure PlOk (p : Prg) (k : Nat) (q : Pl) : Prop where
 at_ : q.at_ ≤ p.cl
 r : ∀ j, j < 10 → B64 (q.r j)
 wd : ∀ j : Nat, (j : Int) < allI p → B64 (q.wd j)
 past : ∀ j, (q.past j).length ≤ k
 was : ∀ j : Nat, (j : Int) < allI p → ∀ v ∈ q.past j, B64 v
structure InvS (p : Prg) (k n : Nat) (s : Sp) : Prop where
 pl : PlOk p k s.pl
 back : s.ahead = true → PlOk p k s.back
 seen : s.seen.length ≤ n
 sc : ∀ c ∈ s.script, 0 ≤ c

theorem PlOk.mono {p : Prg} {k k' : Nat} {q : Pl} (h : PlOk p k q) (hk : k ≤ k') : PlOk p k' q := ⟨h.at_, h.r, h.wd, fun j => Nat.le_trans (h.past j) hk, h.was⟩
theorem PlOk.go {p : Prg} {k : Nat} {q : Pl} (h : PlOk p k q) (n : Nat) (hn : n ≤ p.cl) : PlOk p k { q with at_ := n } := ⟨hn, h.r, h.wd, h.past, h.was⟩
theorem PlOk.reg {p : Prg} {k : Nat} {q : Pl} (h : PlOk p k q) (a v : Int) (hv : B64 v) : PlOk p k { q with r := setR q.r a v } := ⟨h.at_, J3w h.r a v hv, h.wd, h.past, h.was⟩
theorem InvS.mono {p : Prg} {k k' n n' : Nat} {s : Sp} (h : InvS p k n s) (hk : k ≤ k') (hn : n ≤ n') : InvS p k' n' s := ⟨h.pl.mono hk, fun a => (h.back a).mono hk, Nat.le_trans h.seen hn, h.sc⟩
theorem InvS.see {p : Prg} {k n : Nat} {s : Sp} (h : InvS p k n s) (x : Se) : InvS p k (n + 1) (s.see x) := ⟨h.pl, h.back, by have := h.seen; simp [Sp.see]; omega, h.sc⟩
theorem InvS.go {p : Prg} {k n : Nat} {s : Sp} (h : InvS p k n s) (m : Nat) (hm : m ≤ p.cl) : InvS p k n (s.go m) := ⟨h.pl.go m hm, h.back, h.seen, h.sc⟩
theorem InvS.reg {p : Prg} {k n : Nat} {s : Sp} (h : InvS p k n s) (a v : Int) (hv : B64 v) : InvS p k n (s.reg a v) := ⟨h.pl.reg a v hv, h.back, h.seen, h.sc⟩
theorem InvS.tail {p : Prg} {k n : Nat} {s : Sp} (h : InvS p k n s) : InvS p k n { s with script := s.script.tail } := ⟨h.pl, h.back, h.seen, fun c hc => h.sc c (List.mem_of_mem_tail hc)⟩
theorem InvS.leave {p : Prg} {k n : Nat} {s : Sp} (h : InvS p k n s) : InvS p k n s.leave := by
 unfold Sp.leave
 split
 ·exact h
 ·exact ⟨h.pl, fun _ => h.pl, h.seen, h.sc⟩
theorem InvS.returns {p : Prg} {k n : Nat} {s : Sp} (h : InvS p k n s) (ha : s.ahead = true) : InvS p k (n + 1) s.returns := ⟨h.back ha, fun a => by simp [Sp.returns] at a, by have := h.seen; simp [Sp.returns]; omega, h.sc⟩
theorem InvS.noneLeft {p : Prg} {k n : Nat} {s : Sp} (h : InvS p k n s) (cl : Nat) : InvS p k (n + 1) (s.noneLeft cl) := by
 unfold Sp.noneLeft
 split
 ·rename_i hc; exact h.returns hc.2
 ·exact h.mono (Nat.le_refl _) (Nat.le_succ _)
theorem InvS.after {p : Prg} {k n : Nat} {s : Sp} (h : InvS p k n s) (over : Bool) : InvS p k (n + 1) (s.after over) := by
 unfold Sp.after
 split
 ·rename_i ha
  have h2 : InvS p k n { s with since := s.since + 1 } := ⟨h.pl, h.back, h.seen, h.sc⟩
  split
  ·exact h2.returns ha
  ·exact h2.mono (Nat.le_refl _) (Nat.le_succ _)
 ·exact h.mono (Nat.le_refl _) (Nat.le_succ _)
theorem InvS.word {p : Prg} {k n : Nat} {s : Sp} (h : InvS p k n s) (i : Ins) (m : Int) (hop : i.op = 3 ∨ i.op = 4 ∨ i.op = 5 ∨ i.op = 6) (ha : i.a.toNat < 10) : InvS p (k + 1) n (wordS p s i m) := by
 have h1 : InvS p (k + 1) n s := h.mono (Nat.le_succ _) (Nat.le_refl _)
 unfold wordS
 by_cases hm : m < 0 ∨ allI p ≤ m
 ·rw [if_pos hm]
  split
  ·exact h1.reg _ _ J1b
  ·exact h1
 rw [if_neg hm]
 by_cases hp : putI i = 1
 ·rw [if_pos hp]
  refine ⟨⟨h.pl.at_, h.pl.r, fun j hj => ?_, fun j => ?_, fun j hj v hv => ?_⟩, h1.back, h.seen, h.sc⟩
  ·dsimp only [setF]
   split
   ·exact h.pl.r _ ha
   ·exact h.pl.wd j hj
  ·dsimp only [setF]
   have := h.pl.past j
   split
   ·rename_i e; subst e; simp; exact h.pl.past _
   ·omega
  ·dsimp only [setF] at hv
   split at hv
   ·rename_i e
    subst e
    rcases List.mem_append.1 hv with hv | hv
    ·exact h.pl.was _ hj v hv
    ·rw [List.mem_singleton.1 hv]; exact h.pl.wd _ hj
   ·exact h.pl.was j hj v hv
 rw [if_neg hp]
 have hm2 : ((m.toNat : Nat) : Int) < allI p := by omega
 have h2 : InvS p (k + 1) n ({ s with script := s.script.tail }.reg i.a (s.pl.wd m.toNat)) := (h1.tail).reg _ _ (h.pl.wd _ hm2)
 split
 ·refine h2.leave.reg _ _ ?_
  rw [List.getD_eq_getElem?_getD]
  cases hq : (s.pl.past m.toNat)[(s.pl.past m.toNat).length - s.choice.toNat]? with
  | none => exact J1b
  | some v => exact h.pl.was _ hm2 v (List.mem_of_getElem? hq)
 ·exact h2

theorem InvS.step {p : Prg} {k n : Nat} {s : Sp} (h : InvS p k n s) (hat : s.pl.at_ < p.cl) (hin : InsOk p.rl p.log p.cl 10 (p.ins s.pl.at_)) (hn : B64 (p.ins s.pl.at_).n) : InvS p (k + 1) (n + 2) (stepS p s).1 := by
 obtain ⟨i, hI⟩ : ∃ i, p.ins s.pl.at_ = i := ⟨_, rfl⟩
 rw [hI] at hin hn
 have h1 : InvS p (k + 1) (n + 1) (s.see ⟨1, s.pl.at_, 0⟩) := (h.see _).mono (Nat.le_succ _) (Nat.le_refl _)
 have hon : InvS p k (n + 1) s.on := (h.see _).go _ hat
 have hon1 : InvS p (k + 1) (n + 1) s.on := hon.mono (Nat.le_succ _) (Nat.le_refl _)
 by_cases h7 : i.op = 7
 ·rw [J6n hI h7]
  have : 0 ≤ i.n ∧ i.n < p.cl := by unfold InsOk Plc at hin; simp [h7] at hin; exact hin.2.2.2
  exact (h1.go _ (by omega)).mono (Nat.le_refl _) (Nat.le_succ _)
 by_cases h8 : i.op = 8
 ·have hpl : 0 ≤ i.n ∧ i.n < p.cl := by unfold InsOk Plc at hin; simp [h8] at hin; exact hin.2.2.2
  rw [Jan hI h8 _ rfl _ _ rfl rfl]
  have hb : ∀ b : Bool, (if b = true then i.n.toNat else s.pl.at_ + 1) ≤ p.cl ∧ (if b = true then s.pl.at_ + 1 else i.n.toNat) ≤ p.cl := by intro b; cases b <;> simp <;> omega
  have hb2 := hb (J1f i.c (s.pl.r i.a.toNat) (s.pl.r i.b.toNat))
  have h2 := (h1.go _ hb2.1).tail
  dsimp only
  split
  ·exact h2.mono (Nat.le_refl _) (Nat.le_succ _)
  ·exact (h2.leave.go _ hb2.2).mono (Nat.le_refl _) (Nat.le_succ _)
 by_cases h9 : i.op = 9
 ·cases ha : s.ahead with
  | false => rw [J6m hI h9 ha]; exact h1.mono (Nat.le_refl _) (Nat.le_succ _)
  | true => rw [J2o hI (.inl ⟨h9, ha⟩)]; exact hon1.mono (Nat.le_refl _) (Nat.le_succ _)
 by_cases h12 : i.op = 12
 ·rw [J2o hI (.inr h12)]; exact hon1.mono (Nat.le_refl _) (Nat.le_succ _)
 by_cases hw : i.op = 3 ∨ i.op = 4 ∨ i.op = 5 ∨ i.op = 6
 ·have hra : i.a.toNat < 10 := by
   unfold InsOk Reg at hin
   rcases hw with e | e | e | e <;> simp [e] at hin <;> omega
  by_cases hx : s.ahead = false ∧ (idxI s.pl.r i < 0 ∨ J0g (p.log i.c.toNat) ≤ idxI s.pl.r i)
  ·rw [J41 hI hw hx.1 hx.2]; exact h1.mono (Nat.le_refl _) (Nat.le_succ _)
  ·rw [J4z hI hw hx]
   exact (hon.see _).word i _ hw hra
 rw [J6o hI (by omega) (by omega) (by omega) (by omega) h7 h8 h9 h12]
 refine ⟨⟨hon1.pl.at_, Jbv h.pl.r i (fun e => ?_) hn, hon1.pl.wd, hon1.pl.past, hon1.pl.was⟩, hon1.back, ?_, hon1.sc⟩
 ·unfold InsOk Reg at hin
  simp [e] at hin
  omega
 ·have := hon1.seen
  have := Jbw s.pl.r i
  simp
  omega
end
section
open Go.RowKit
set_option linter.unusedVariables false
def Jeo (m : Mem) (j : Nat) : Nat → Int
 | 0 => 0
 | n + 1 => if baseN m.len n ≤ j ∧ j < baseN m.len n + m.len n then m.wd n (j - baseN m.len n) else Jeo m j n
def flatM (m : Mem) (j : Nat) : Int := Jeo m j m.ml

theorem Jb8 (m : Mem) (c i : Nat) (hi : i < m.len c) : ∀ n, c < n → Jeo m (baseN m.len c + i) n = m.wd c i
 | 0, h => absurd h (Nat.not_lt_zero _)
 | n + 1, h => by
  unfold Jeo
  by_cases hr : baseN m.len n ≤ baseN m.len c + i ∧ baseN m.len c + i < baseN m.len n + m.len n
  ·rw [if_pos hr]
   obtain ⟨e1, e2⟩ := Jec m.len (c := n) (i := baseN m.len c + i - baseN m.len n) (by omega) hi (by omega)
   rw [e2, e1]
  ·rw [if_neg hr]
   have hcn : c ≠ n := by
    rintro rfl
    exact hr (by omega)
   exact Jb8 m c i hi n (by omega)
theorem J9y (m : Mem) (c i : Nat) (hc : c < m.ml) (hi : i < m.len c) : flatM m (baseN m.len c + i) = m.wd c i :=
 Jb8 m c i hi m.ml hc
theorem J5s (len : Nat → Nat) : ∀ (n j : Nat), j < baseN len n → ∃ c i, c < n ∧ i < len c ∧ baseN len c + i = j
 | 0, j, h => by simp [baseN] at h
 | n + 1, j, h => by
  by_cases e : j < baseN len n
  ·obtain ⟨c, i, h1, h2, h3⟩ := J5s len n j e
   exact ⟨c, i, by omega, h2, h3⟩
  ·simp only [baseN] at h
   exact ⟨n, j - baseN len n, by omega, by omega, by omega⟩
theorem Jhi {m : Mem} {W : Nat → Int} (hW : ∀ j, j < m.ml → ∀ i, i < m.len j → W (baseN m.len j + i) = m.wd j i) (j : Nat) (hj : j < baseN m.len m.ml) : W j = flatM m j := by
 obtain ⟨c, i, h1, h2, rfl⟩ := J5s m.len m.ml j hj
 rw [hW c h1 i h2, J9y m c i h1 h2]
end
section
open Go.RowKit
set_option linter.unusedSimpArgs false
set_option linter.unusedVariables false
theorem J9w {p : Prg} {m : Mem} (hok : p.Ok 8000 10) (hf : J2g p.rl p.log m.ml m.len) : (∀ i, i < m.ml → 0 < m.len i ∧ m.len i ≤ 64) ∧ m.ml ≤ 6 := by
 refine ⟨fun i hi => ?_, by have h0 := hf.2.1; have := hok.1.1; omega⟩
 have h0 := hf.2.1
 have h1 := hf.2.2 i (by omega)
 have h2 := hok.1.2 i (by omega)
 have h3 := J2f (k := (p.log i).toNat) (by omega)
 unfold J0g at h1
 omega

def Wr1 (p : Prg) (m : Mem) (L : List Int) (fuel c : Int) : Prop :=
 (¬ (p.Ok 8000 10 ∧ J2g p.rl p.log m.ml m.len) ∧ c = 2) ∨ ((p.Ok 8000 10 ∧ J2g p.rl p.log m.ml m.len) ∧ ((fuel < 0 ∨ 40000 < fuel) ∨ ¬ ScOk L) ∧ c = 3) ∨
  ((p.Ok 8000 10 ∧ J2g p.rl p.log m.ml m.len) ∧ ¬ (fuel < 0 ∨ 40000 < fuel) ∧ ScOk L ∧ c = 0)
theorem Jiy {p : Prg} {m : Mem} {L : List Int} {fuel c d : Int} (h : Wr1 p m L fuel c) (k : Wr1 p m L fuel d) : c = d := by
 rcases h with ⟨a, b⟩ | ⟨a, b, e⟩ | ⟨a, b, e, f⟩ <;> rcases k with ⟨a', b'⟩ | ⟨a', b', e'⟩ | ⟨a', b', e', f'⟩
 ·rw [b, b']
 ·exact absurd a' a
 ·exact absurd a' a
 ·exact absurd a a'
 ·rw [e, e']
 ·rcases b with b | b
  ·exact absurd b b'
  ·exact absurd e' b
 ·exact absurd a a'
 ·rcases b' with b' | b'
  ·exact absurd b' b
  ·exact absurd e b'
 ·rw [f, f']
theorem Jas {p : Prg} {m : Mem} {L : List Int} {fuel : Int} (h : Wr1 p m L fuel 0) : (p.Ok 8000 10 ∧ J2g p.rl p.log m.ml m.len) ∧ ¬ (fuel < 0 ∨ 40000 < fuel) ∧ ScOk L := by
 rcases h with ⟨_, b⟩ | ⟨_, _, b⟩ | ⟨a, b, c, _⟩
 ·exact absurd b (by decide)
 ·exact absurd b (by decide)
 ·exact ⟨a, b, c⟩

def Jlt (p : Prg) (m : Mem) (L : List Int) (fuel : Int) (w : World) (e : Ending) (w' : World) : Prop :=
 ∃ (x1 x2 x3 code : Int) (a : Option Addr) (n c : Nat) (a' : Option Addr) (n' c' : Nat), e = .returned (.tuple #[.agg #[V x1, V x2, V x3, .slice a n c, .slice a' n' c'], V code]) ∧ Wr1 p m L fuel code ∧
  (code = 0 → x1 = (playS p (flatM m) L fuel.toNat).fin ∧ Je8 w' (.slice a n c) (playS p (flatM m) L fuel.toNat).seen) ∧ More w w'
end
section
open Go.RowKit
set_option linter.unusedSimpArgs false
set_option linter.unusedVariables false
set_option maxRecDepth 8000
theorem J15 {w : World} {b : Nat} {o : Obj} (h : w.heap[b]? = some o) : b < w.heap.size := (Array.getElem?_eq_some_iff.1 h).1

theorem J0d {w w' : World} {M : Nat} (h : Below M w w') (j : Nat) (v : Value) : Below M w (w'.setCell ⟨M, j, none⟩ v) := Below.setCell h (Nat.le_refl _) v

theorem J05 {w w' : World} {M : Nat} (h : Below M w w') (hM : M ≤ w'.heap.size) (o : Obj) : Below M w (w'.alloc o) := Below.alloc h hM o

theorem J08 {w w' : World} {M : Nat} (h : Below M w w') : Below M w w'.drew := Below.drew h

theorem J0w {w w' w'' : World} {M : Nat} (h : Below M w w') (hM : M ≤ w'.heap.size) (m : More w' w'') : Below M w w'' := Below.trans h (Below.mono m hM)

theorem Jo4 : (Tryz.prog.info? 165).map (fun i => (i.zero, i.size, i.bytes)) = some (some (.agg #[V 0, V 0, V 0]), 3, 24) := by kernel_rfl

theorem J7h (w : World) (x y z : Value) (t : TypeId) : ∀ j u, [x, y, z][j]? = some u → (w.alloc (.cells #[x, y, z] t)).cell? ((⟨w.heap.size, 0, none⟩ : Addr).add j) = some u := by
 intro j u h
 rw [Go.WideShapes.add_plain]
 have hj : j = 0 ∨ j = 1 ∨ j = 2 := by have := (List.getElem?_eq_some_iff.1 h).1; simp at this; omega
 rcases hj with rfl | rfl | rfl <;> (simp at h; subst h; go_simp)

structure ScAt (w : World) (B : Nat) (sc : Value) (L : List Int) : Prop where
 out : ∃ sa cap, sc = .slice sa L.length cap ∧ L.length ≤ cap ∧ (L ≠ [] → ∃ sb so, sa = some ⟨sb, so, none⟩ ∧ sb < B ∧ ∀ j c, L[j]? = some c → w.cell? ⟨sb, so + j, none⟩ = some (V c))

theorem ScAt.below {w w' : World} {B : Nat} {sc : Value} {L : List Int} (h : ScAt w B sc L) (hb : Below B w w') : ScAt w' B sc L := by
 obtain ⟨sa, cap, h1, h2, h3⟩ := h.out
 refine ⟨sa, cap, h1, h2, fun hL => ?_⟩
 obtain ⟨sb, so, h4, h5, h6⟩ := h3 hL
 exact ⟨sb, so, h4, h5, fun j c hc => by rw [Below.cell hb h5]; exact h6 j c hc⟩

theorem J00 {P : Prop} (h : P) : Hid P := h

theorem J06 {w : World} {R : Nat} {c : Array Value} {T : TypeId} (h : w.heap[R]? = some (.cells c T (0, 0))) (j : Nat) (v : Value) (hv : c[j]? = some v) : w.cell? ⟨R, j, none⟩ = some v := by
 rw [cell_of_row w R j c T (0, 0) h]; exact hv

theorem Jo2 : (Tryz.prog.info? 35).map (fun i => (i.zero, i.size, i.bytes)) = some (some (.slice none 0 0), 1, 24) := by kernel_rfl

theorem Jg2 (n j : Nat) (h : j < n) : (madeCells #[.slice none 0 0] n)[j]? = some (.slice none 0 0) := by
 unfold madeCells
 simp [h, Nat.mod_one]

theorem Jio {p : Prg} {s : Sp} {e : Int × Int} (h : (stepS p s).2.2 = some e) : (stepS p s).1 = s.see ⟨1, s.pl.at_, 0⟩ := by
 obtain ⟨i, hI⟩ : ∃ i, p.ins s.pl.at_ = i := ⟨_, rfl⟩
 by_cases h7 : i.op = 7
 ·rw [J6n hI h7] at h; cases h
 by_cases h8 : i.op = 8
 ·rw [Jan hI h8 _ rfl _ _ rfl rfl] at h; cases h
 by_cases h9 : i.op = 9
 ·cases ha : s.ahead with
  | false => rw [J6m hI h9 ha]
  | true => rw [J2o hI (.inl ⟨h9, ha⟩)] at h; cases h
 by_cases h12 : i.op = 12
 ·rw [J2o hI (.inr h12)] at h; cases h
 by_cases hw : i.op = 3 ∨ i.op = 4 ∨ i.op = 5 ∨ i.op = 6
 ·by_cases hx : s.ahead = false ∧ (idxI s.pl.r i < 0 ∨ J0g (p.log i.c.toNat) ≤ idxI s.pl.r i)
  ·rw [J41 hI hw hx.1 hx.2]
  ·rw [J4z hI hw hx] at h; cases h
 rw [J6o hI (by omega) (by omega) (by omega) (by omega) h7 h8 h9 h12] at h
 cases h

theorem Jlv {p : Prg} {m : Mem} (hrl : m.ml = p.rl) (hlen : ∀ i, i < m.ml → (m.len i : Int) = J0g (p.log i)) : allI p = (baseN m.len m.ml : Int) := by
 unfold allI
 rw [← hrl]
 exact (J36 p m hlen m.ml (Nat.le_refl _)).symm
def RunB (fin val steps : Int) (n : Nat) : Prop := 0 ≤ fin ∧ fin ≤ 2 ∧ B64 val ∧ B64 steps ∧ n < 4611686018427387904
theorem Jer {rl : Nat} {log : Nat → Int} {cl : Nat} {i : Ins} (h : InsOk rl log cl 10 i) (h9 : i.op = 9) : i.a.toNat < 10 := by
 unfold InsOk at h
 simp [h9, Reg] at h
 omega
theorem Jgn {p : Prg} {s : St} {e : Int × Int} (hr : ∀ j, j < 10 → B64 (s.r j)) (hin : InsOk p.rl p.log p.cl 10 (p.ins s.at_)) (h : (stepI p s).2 = some e) : 0 ≤ e.1 ∧ e.1 ≤ 2 ∧ B64 e.2 := by
 unfold stepI at h
 by_cases h7 : (p.ins s.at_).op = 7
 ·rw [if_pos h7] at h; cases h
 rw [if_neg h7] at h
 by_cases h8 : (p.ins s.at_).op = 8
 ·rw [if_pos h8] at h; cases h
 rw [if_neg h8] at h
 by_cases h9 : (p.ins s.at_).op = 9
 ·rw [if_pos h9] at h
  obtain rfl := Option.some.inj h
  exact ⟨by dsimp only; omega, by dsimp only; omega, hr _ (Jer hin h9)⟩
 rw [if_neg h9] at h
 by_cases hp : 0 ≤ putI (p.ins s.at_)
 ·rw [if_pos hp] at h
  by_cases hi : idxI s.r (p.ins s.at_) < 0 ∨ (s.m.len (p.ins s.at_).c.toNat : Int) ≤ idxI s.r (p.ins s.at_)
  ·rw [if_pos hi] at h
   obtain rfl := Option.some.inj h
   exact ⟨by dsimp only; omega, by dsimp only; omega, J1b⟩
  ·rw [if_neg hi] at h
   by_cases h1 : putI (p.ins s.at_) = 1
   ·rw [if_pos h1] at h; cases h
   ·rw [if_neg h1] at h; cases h
 ·rw [if_neg hp] at h; cases h
theorem Jgo {p : Prg} {s : Sp} {e : Int × Int} (hr : ∀ j, j < 10 → B64 (s.pl.r j)) (hin : InsOk p.rl p.log p.cl 10 (p.ins s.pl.at_)) (h : (stepS p s).2.2 = some e) : 0 ≤ e.1 ∧ e.1 ≤ 2 ∧ B64 e.2 := by
 unfold stepS at h
 by_cases h7 : (p.ins s.pl.at_).op = 7
 ·rw [if_pos h7] at h; cases h
 rw [if_neg h7] at h
 by_cases h8 : (p.ins s.pl.at_).op = 8
 ·rw [if_pos h8] at h
  by_cases hh : J1f (p.ins s.pl.at_).c (s.pl.r (p.ins s.pl.at_).a.toNat) (s.pl.r (p.ins s.pl.at_).b.toNat) = true
  ·rw [if_pos hh] at h; cases h
  ·rw [if_neg hh] at h; cases h
 rw [if_neg h8] at h
 by_cases h9 : (p.ins s.pl.at_).op = 9 ∧ s.ahead = false
 ·rw [if_pos h9] at h
  obtain rfl := Option.some.inj h
  exact ⟨by dsimp only; omega, by dsimp only; omega, hr _ (Jer hin h9.1)⟩
 rw [if_neg h9] at h
 by_cases h12 : (p.ins s.pl.at_).op = 9 ∨ (p.ins s.pl.at_).op = 12
 ·rw [if_pos h12] at h; cases h
 rw [if_neg h12] at h
 by_cases hp : 0 ≤ putI (p.ins s.pl.at_)
 ·rw [if_pos hp] at h
  by_cases hi : s.ahead = false ∧ (idxI s.pl.r (p.ins s.pl.at_) < 0 ∨ J0g (p.log (p.ins s.pl.at_).c.toNat) ≤ idxI s.pl.r (p.ins s.pl.at_))
  ·rw [if_pos hi] at h
   obtain rfl := Option.some.inj h
   exact ⟨by dsimp only; omega, by dsimp only; omega, J1b⟩
  ·rw [if_neg hi] at h; cases h
 ·rw [if_neg hp] at h; cases h
theorem Jm5 {p : Prg} {m : Mem} (hin : ∀ i, i < p.cl → InsOk p.rl p.log p.cl 10 (p.ins i)) (hn : ∀ i, i < p.cl → B64 (p.ins i).n) (hrl : m.ml = p.rl) : ∀ (f k : Nat) (s : St), Inv p m k s → k + f ≤ 40000 → RunB (runI p f k s).fin (runI p f k s).val (runI p f k s).steps (runI p f k s).seen.length
 | 0, k, s, h, hk => by
  rw [runI]
  have := h.seen
  exact ⟨by dsimp only; omega, by dsimp only; omega, J1b, by unfold B64; dsimp only; omega, by dsimp only; omega⟩
 | f + 1, k, s, h, hk => by
  have hs := h.seen
  rw [runI]
  by_cases hat : p.cl ≤ s.at_
  ·rw [if_pos hat]
   exact ⟨by dsimp only; omega, by dsimp only; omega, J1b, by unfold B64; dsimp only; omega, by dsimp only; omega⟩
  ·rw [if_neg hat]
   have hi := Jf5 h (by omega) (hin _ (by omega)) (hn _ (by omega)) hrl
   have h2 := hi.seen
   cases he : (stepI p s).2 with
   | none => exact Jm5 hin hn hrl f (k + 1) _ hi (by omega)
   | some e =>
    have h3 := Jgn h.r (hin _ (by omega)) he
    exact ⟨h3.1, h3.2.1, h3.2.2, by unfold B64; dsimp only; omega, by dsimp only; omega⟩
theorem Jm6 {p : Prg} (hin : ∀ i, i < p.cl → InsOk p.rl p.log p.cl 10 (p.ins i)) (hn : ∀ i, i < p.cl → B64 (p.ins i).n) : ∀ (f k : Nat) (s : Sp), InvS p k (4 * k) s → k + f ≤ 40000 → RunB (runS p f k s).fin (runS p f k s).val (runS p f k s).steps (runS p f k s).seen.length
 | 0, k, s, h, hk => by
  rw [runS]
  have := h.seen
  exact ⟨by dsimp only; omega, by dsimp only; omega, J1b, by unfold B64; dsimp only; omega, by dsimp only; omega⟩
 | f + 1, k, s, h, hk => by
  have h1 := h.noneLeft p.cl
  have hs := h1.seen
  rw [runS]
  by_cases hat : p.cl ≤ (s.noneLeft p.cl).pl.at_
  ·rw [if_pos hat]
   exact ⟨by dsimp only; omega, by dsimp only; omega, J1b, by unfold B64; dsimp only; omega, by dsimp only; omega⟩
  ·rw [if_neg hat]
   have hi := h1.step (by omega) (hin _ (by omega)) (hn _ (by omega))
   have h2 := hi.seen
   cases he : (stepS p (s.noneLeft p.cl)).2.2 with
   | none => exact Jm6 hin hn f (k + 1) _ ((hi.after _).mono (Nat.le_refl _) (by omega)) (by omega)
   | some e =>
    have h3 := Jgo h1.pl.r (hin _ (by omega)) he
    exact ⟨h3.1, h3.2.1, h3.2.2, by unfold B64; dsimp only; omega, by dsimp only; omega⟩
theorem Jn4 {p : Prg} {m : Mem} {fuel : Int} (hw : Wr1 p m [] fuel 0) (hfit : p.Fit) (hwd : ∀ j, j < m.ml → ∀ i, i < m.len j → B64 (m.wd j i)) : RunB (playI p m fuel.toNat).fin (playI p m fuel.toNat).val (playI p m fuel.toNat).steps (playI p m fuel.toNat).seen.length := by
 obtain ⟨hok, hf, _⟩ := Jas hw
 exact Jm5 (fun i hi => hok.1.2.2.2 i hi) (fun i hi => (hfit.ins i hi).2.2.2.2) hok.2.2.1 fuel.toNat 0 _ ⟨Nat.zero_le _, fun _ _ => J1b, rfl, fun _ => rfl, hwd, by simp⟩ (by omega)
theorem Jn5 {p : Prg} {m : Mem} {L : List Int} {fuel : Int} (hw : Wr1 p m L fuel 0) (hfit : p.Fit) (hwd : ∀ j, j < m.ml → ∀ i, i < m.len j → B64 (m.wd j i)) : RunB (playS p (flatM m) L fuel.toNat).fin (playS p (flatM m) L fuel.toNat).val (playS p (flatM m) L fuel.toNat).steps (playS p (flatM m) L fuel.toNat).seen.length := by
 obtain ⟨hok, hf, hsok⟩ := Jas hw
 have hml : m.ml = p.rl := hok.2.2.1
 have hlen : ∀ i, i < m.ml → (m.len i : Int) = J0g (p.log i) := fun i hi => hok.2.2.2 i (by omega)
 have hall : allI p = (baseN m.len m.ml : Int) := Jlv hml hlen
 refine Jm6 (fun i hi => hok.1.2.2.2 i hi) (fun i hi => (hfit.ins i hi).2.2.2.2) fuel.toNat 0 _ ?_ (by omega)
 refine ⟨⟨Nat.zero_le _, fun _ _ => J1b, fun j hj => ?_, fun j => Nat.le_refl _, fun j hj v hv => by simp at hv⟩, fun a => by simp at a, Nat.le_refl _, fun c hc => ?_⟩
 ·rw [hall] at hj
  obtain ⟨c, i, h1, h2, rfl⟩ := J5s m.len m.ml j (by omega)
  dsimp only
  rw [J9y m c i h1 h2]
  exact hwd c h1 i h2
 ·obtain ⟨j, hj⟩ := List.getElem?_of_mem hc
  exact hsok.2 j c hj
structure Sta where
 rs : List (Int × Bool)
 cs : List Ins
 ms : List (List Int)
abbrev Sta.prg (x : Sta) : Prg := prgOf x.rs x.cs
abbrev Sta.mem (x : Sta) : Mem := memOf x.ms
structure Wf (x : Sta) : Prop where
 rl : x.rs.length ≤ 6
 ml : x.ms.length = x.rs.length
 log : ∀ r ∈ x.rs, 0 ≤ r.1 ∧ r.1 ≤ 6
 len : ∀ l ∈ x.ms, l.length ≤ 64
 wd : ∀ l ∈ x.ms, ∀ n ∈ l, B64 n
 cl : x.cs.length ≤ 600
 ins : ∀ i ∈ x.cs, i.fits
theorem J2k {α : Type} (l : List α) (i : Nat) (d : α) (h : i < l.length) : l.getD i d ∈ l := by
 rw [List.getD_eq_getElem?_getD, List.getElem?_eq_getElem h]
 exact List.getElem_mem h
theorem Wf.fit {x : Sta} (h : Wf x) : x.prg.Fit := by
 refine ⟨by have := h.rl; show x.rs.length ≤ maxLen; unfold maxLen; omega, by have := h.cl; show x.cs.length ≤ maxLen; unfold maxLen; omega, fun i hi => ?_, fun i hi => h.ins _ (J2k _ _ _ hi)⟩
 have := h.log _ (J2k x.rs i (0, false) hi)
 show I64 (x.rs.getD i (0, false)).1
 unfold I64
 omega
theorem Wf.mwd {x : Sta} (h : Wf x) : ∀ j, j < x.mem.ml → ∀ i, i < x.mem.len j → B64 (x.mem.wd j i) := fun j hj i hi => h.wd _ (J2k x.ms j [] hj) _ (J2k _ _ _ hi)

def J5j : List UInt8 := [114, 101, 103, 105, 111, 110]
def fillW : List UInt8 := [102, 105, 108, 108]
def lookW : List UInt8 := [108, 111, 111, 107]
def insW : List UInt8 := [105, 110, 115]
def runW : List UInt8 := [114, 117, 110]
def J8x : List UInt8 := [97, 104, 101, 97, 100]
def J92 : List UInt8 := [99, 104, 101, 99, 107]
def hardW : List UInt8 := [104, 97, 114, 100]
def textW : List UInt8 := [116, 101, 120, 116]
def loadW : List UInt8 := [108, 111, 97, 100]
def isW : List UInt8 := [105, 115]
def No (x y : Sta) (a : List UInt8) : Prop := y = x ∧ a = [63]
def There (x : Sta) (r : Int) : Prop := 0 ≤ r ∧ r < x.ms.length
def over (l row : List Int) : List Int := l ++ row.drop l.length
def hardC (p : Prg) : List Ins := (List.range (J0c p p.cl)).map (hardL p)

def J4y (L : List Int) (x y : Sta) (a : List UInt8) : Prop :=
 (∃ u v, L = [u, v] ∧ RegTo x.rs x.ms u v y.rs y.ms a ∧ y.cs = x.cs) ∨ (¬ L.length = 2 ∧ No x y a)
def Jmc (L : List Int) (x : Sta) : Prop := ∃ r l, L = r :: l ∧ There x r ∧ l.length ≤ (x.ms.getD r.toNat []).length
def J95 (L : List Int) (x y : Sta) (a : List UInt8) : Prop :=
 (∃ r l, L = r :: l ∧ There x r ∧ l.length ≤ (x.ms.getD r.toNat []).length ∧ y = ⟨x.rs, x.cs, x.ms.set r.toNat (over l (x.ms.getD r.toNat []))⟩ ∧ a = okW) ∨ (¬ Jmc L x ∧ No x y a)
def J9a (L : List Int) (x y : Sta) (a : List UInt8) : Prop :=
 (∃ r, L = [r] ∧ There x r ∧ y = x ∧ a = ansL isW (x.ms.getD r.toNat [])) ∨ (¬ (∃ r, L = [r] ∧ There x r) ∧ No x y a)
def insTo (L : List Int) (x y : Sta) (a : List UInt8) : Prop :=
 (∃ o u v t n, L = [o, u, v, t, n] ∧ x.cs.length < 200 ∧ y = ⟨x.rs, x.cs ++ [⟨o, u, v, t, n⟩], x.ms⟩ ∧ a = ansL okW [(x.cs.length : Int) + 1]) ∨ (¬ (L.length = 5 ∧ x.cs.length < 200) ∧ No x y a)
def runTo (L : List Int) (x y : Sta) (a : List UInt8) : Prop :=
 (∃ f, L = [f] ∧ y = x ∧ ∃ c, Wr1 x.prg x.mem [] f c ∧ a = ranL c (playI x.prg x.mem f.toNat).fin (playI x.prg x.mem f.toNat).val (playI x.prg x.mem f.toNat).steps (playI x.prg x.mem f.toNat).seen.length) ∨ (¬ L.length = 1 ∧ No x y a)
def Jce (L : List Int) (x y : Sta) (a : List UInt8) : Prop :=
 (∃ f l, L = f :: l ∧ y = x ∧ ∃ c, Wr1 x.prg x.mem l f c ∧ a = ranL c (playS x.prg (flatM x.mem) l f.toNat).fin (playS x.prg (flatM x.mem) l f.toNat).val (playS x.prg (flatM x.mem) l f.toNat).steps (playS x.prg (flatM x.mem) l f.toNat).seen.length) ∨ (L = [] ∧ No x y a)
def fauL (f : Int × Int) (a : List UInt8) : List UInt8 := if f.1 = 0 then a else ansL badW [f.1, f.2]
def Jcj (L : List Int) (x y : Sta) (a : List UInt8) : Prop :=
 (L = [] ∧ y = x ∧ ∃ f, Told x.prg f ∧ a = fauL f okW) ∨ (¬ L = [] ∧ No x y a)
def J96 (L : List Int) (x y : Sta) (a : List UInt8) : Prop :=
 (L = [] ∧ ∃ f, Told x.prg f ∧ y = (if f.1 = 0 then ⟨x.rs, hardC x.prg, x.ms⟩ else x) ∧ a = fauL f (ansL okW [(J0c x.prg x.prg.cl : Int)])) ∨ (¬ L = [] ∧ No x y a)
def Ji2 (L : List Int) (x y : Sta) (a : List UInt8) : Prop :=
 (L = [] ∧ y = x ∧ ∃ f, Told x.prg f ∧ a = fauL f (ansL okW [((fitP (hardP x.prg)).cl : Int)])) ∨ (¬ L = [] ∧ No x y a)
def Jir (L : List Int) (x y : Sta) (a : List UInt8) : Prop :=
 (L = [] ∧ y = x ∧ ((x.prg.Ok 8000 10 ∧ a = ansL okW [((textL x.prg).length : Int)]) ∨ (¬ x.prg.Ok 8000 10 ∧ a = ansL badW [2]))) ∨ (¬ L = [] ∧ No x y a)
def J45 (h : List UInt8) : Prop := h = J5j ∨ h = fillW ∨ h = lookW ∨ h = insW ∨ h = runW ∨ h = J8x ∨ h = J92 ∨ h = hardW ∨ h = textW ∨ h = loadW
def WordTo (h : List UInt8) (L : List Int) (x y : Sta) (a : List UInt8) : Prop :=
 (h = J5j → J4y L x y a) ∧ (h = fillW → J95 L x y a) ∧ (h = lookW → J9a L x y a) ∧ (h = insW → insTo L x y a) ∧ (h = runW → runTo L x y a) ∧ (h = J8x → Jce L x y a) ∧ (h = J92 → Jcj L x y a) ∧ (h = hardW → J96 L x y a) ∧ (h = textW → Jir L x y a) ∧ (h = loadW → Ji2 L x y a) ∧ (¬ J45 h → No x y a)
def NumsR (fs : List (List UInt8)) (L : List Int) : Prop := fs = L.map digI ∧ ∀ n ∈ L, -999999 ≤ n ∧ n ≤ 999999
def SLineTo (x : Sta) (l : List UInt8) (y : Sta) (a : List UInt8) : Prop :=
 ∃ h fs, J0e 32 l = h :: fs ∧ ((∃ L, NumsR fs L ∧ WordTo h L x y a) ∨ ((∀ L, ¬ NumsR fs L) ∧ No x y a))

theorem J82 {L : List Int} {x y : Sta} {a : List UInt8} (h : J4y L x y a) : WordTo J5j L x y a := ⟨fun _ => h, fun e => absurd e (by decide), fun e => absurd e (by decide), fun e => absurd e (by decide), fun e => absurd e (by decide), fun e => absurd e (by decide), fun e => absurd e (by decide), fun e => absurd e (by decide), fun e => absurd e (by decide), fun e => absurd e (by decide), fun n => absurd (.inl rfl) n⟩
theorem Jcn {L : List Int} {x y : Sta} {a : List UInt8} (h : J95 L x y a) : WordTo fillW L x y a := ⟨fun e => absurd e (by decide), fun _ => h, fun e => absurd e (by decide), fun e => absurd e (by decide), fun e => absurd e (by decide), fun e => absurd e (by decide), fun e => absurd e (by decide), fun e => absurd e (by decide), fun e => absurd e (by decide), fun e => absurd e (by decide), fun n => absurd (.inr (.inl rfl)) n⟩
theorem Jd8 {L : List Int} {x y : Sta} {a : List UInt8} (h : J9a L x y a) : WordTo lookW L x y a := ⟨fun e => absurd e (by decide), fun e => absurd e (by decide), fun _ => h, fun e => absurd e (by decide), fun e => absurd e (by decide), fun e => absurd e (by decide), fun e => absurd e (by decide), fun e => absurd e (by decide), fun e => absurd e (by decide), fun e => absurd e (by decide), fun n => absurd (.inr (.inr (.inl rfl))) n⟩
theorem Jho {L : List Int} {x y : Sta} {a : List UInt8} (h : insTo L x y a) : WordTo insW L x y a := ⟨fun e => absurd e (by decide), fun e => absurd e (by decide), fun e => absurd e (by decide), fun _ => h, fun e => absurd e (by decide), fun e => absurd e (by decide), fun e => absurd e (by decide), fun e => absurd e (by decide), fun e => absurd e (by decide), fun e => absurd e (by decide), fun n => absurd (.inr (.inr (.inr (.inl rfl)))) n⟩
theorem Jij {L : List Int} {x y : Sta} {a : List UInt8} (h : runTo L x y a) : WordTo runW L x y a := ⟨fun e => absurd e (by decide), fun e => absurd e (by decide), fun e => absurd e (by decide), fun e => absurd e (by decide), fun _ => h, fun e => absurd e (by decide), fun e => absurd e (by decide), fun e => absurd e (by decide), fun e => absurd e (by decide), fun e => absurd e (by decide), fun n => absurd (.inr (.inr (.inr (.inr (.inl rfl))))) n⟩
theorem J9l {L : List Int} {x y : Sta} {a : List UInt8} (h : Jce L x y a) : WordTo J8x L x y a := ⟨fun e => absurd e (by decide), fun e => absurd e (by decide), fun e => absurd e (by decide), fun e => absurd e (by decide), fun e => absurd e (by decide), fun _ => h, fun e => absurd e (by decide), fun e => absurd e (by decide), fun e => absurd e (by decide), fun e => absurd e (by decide), fun n => absurd (.inr (.inr (.inr (.inr (.inr (.inl rfl)))))) n⟩
theorem J9p {L : List Int} {x y : Sta} {a : List UInt8} (h : Jcj L x y a) : WordTo J92 L x y a := ⟨fun e => absurd e (by decide), fun e => absurd e (by decide), fun e => absurd e (by decide), fun e => absurd e (by decide), fun e => absurd e (by decide), fun e => absurd e (by decide), fun _ => h, fun e => absurd e (by decide), fun e => absurd e (by decide), fun e => absurd e (by decide), fun n => absurd (.inr (.inr (.inr (.inr (.inr (.inr (.inl rfl))))))) n⟩
theorem Jcs {L : List Int} {x y : Sta} {a : List UInt8} (h : J96 L x y a) : WordTo hardW L x y a := ⟨fun e => absurd e (by decide), fun e => absurd e (by decide), fun e => absurd e (by decide), fun e => absurd e (by decide), fun e => absurd e (by decide), fun e => absurd e (by decide), fun e => absurd e (by decide), fun _ => h, fun e => absurd e (by decide), fun e => absurd e (by decide), fun n => absurd (.inr (.inr (.inr (.inr (.inr (.inr (.inr (.inl rfl)))))))) n⟩
theorem Je0 {L : List Int} {x y : Sta} {a : List UInt8} (h : Jir L x y a) : WordTo textW L x y a := ⟨fun e => absurd e (by decide), fun e => absurd e (by decide), fun e => absurd e (by decide), fun e => absurd e (by decide), fun e => absurd e (by decide), fun e => absurd e (by decide), fun e => absurd e (by decide), fun e => absurd e (by decide), fun _ => h, fun e => absurd e (by decide), fun n => absurd (.inr (.inr (.inr (.inr (.inr (.inr (.inr (.inr (.inl rfl))))))))) n⟩
theorem Jd7 {L : List Int} {x y : Sta} {a : List UInt8} (h : Ji2 L x y a) : WordTo loadW L x y a := ⟨fun e => absurd e (by decide), fun e => absurd e (by decide), fun e => absurd e (by decide), fun e => absurd e (by decide), fun e => absurd e (by decide), fun e => absurd e (by decide), fun e => absurd e (by decide), fun e => absurd e (by decide), fun e => absurd e (by decide), fun _ => h, fun n => absurd (.inr (.inr (.inr (.inr (.inr (.inr (.inr (.inr (.inr (rfl)))))))))) n⟩
theorem Jey {h : List UInt8} (n : ¬ J45 h) : ¬ h = J5j ∧ ¬ h = fillW ∧ ¬ h = lookW ∧ ¬ h = insW ∧ ¬ h = runW ∧ ¬ h = J8x ∧ ¬ h = J92 ∧ ¬ h = hardW ∧ ¬ h = textW ∧ ¬ h = loadW := by
 unfold J45 at n
 simpa only [not_or] using n
theorem Jaa {h : List UInt8} {L : List Int} {x y : Sta} {a : List UInt8} (n : ¬ J45 h) (k : No x y a) : WordTo h L x y a := by
 obtain ⟨n1, n2, n3, n4, n5, n6, n7, n8, n9, n10⟩ := Jey n
 exact ⟨fun e => absurd e n1, fun e => absurd e n2, fun e => absurd e n3, fun e => absurd e n4, fun e => absurd e n5, fun e => absurd e n6, fun e => absurd e n7, fun e => absurd e n8, fun e => absurd e n9, fun e => absurd e n10, fun _ => k⟩
theorem WordTo.cases {h : List UInt8} {L : List Int} {x y : Sta} {a : List UInt8} (k : WordTo h L x y a) : (h = J5j ∧ J4y L x y a) ∨ (h = fillW ∧ J95 L x y a) ∨ (h = lookW ∧ J9a L x y a) ∨ (h = insW ∧ insTo L x y a) ∨ (h = runW ∧ runTo L x y a) ∨ (h = J8x ∧ Jce L x y a) ∨ (h = J92 ∧ Jcj L x y a) ∨ (h = hardW ∧ J96 L x y a) ∨ (h = textW ∧ Jir L x y a) ∨ (h = loadW ∧ Ji2 L x y a) ∨ (¬ J45 h ∧ No x y a) := by
 obtain ⟨k1, k2, k3, k4, k5, k6, k7, k8, k9, k10, k11⟩ := k
 by_cases n : J45 h
 ·rcases n with e | e | e | e | e | e | e | e | e | e
  ·exact .inl ⟨e, k1 e⟩
  ·exact .inr (.inl ⟨e, k2 e⟩)
  ·exact .inr (.inr (.inl ⟨e, k3 e⟩))
  ·exact .inr (.inr (.inr (.inl ⟨e, k4 e⟩)))
  ·exact .inr (.inr (.inr (.inr (.inl ⟨e, k5 e⟩))))
  ·exact .inr (.inr (.inr (.inr (.inr (.inl ⟨e, k6 e⟩)))))
  ·exact .inr (.inr (.inr (.inr (.inr (.inr (.inl ⟨e, k7 e⟩))))))
  ·exact .inr (.inr (.inr (.inr (.inr (.inr (.inr (.inl ⟨e, k8 e⟩)))))))
  ·exact .inr (.inr (.inr (.inr (.inr (.inr (.inr (.inr (.inl ⟨e, k9 e⟩))))))))
  ·exact .inr (.inr (.inr (.inr (.inr (.inr (.inr (.inr (.inr (.inl ⟨e, k10 e⟩)))))))))
 ·exact .inr (.inr (.inr (.inr (.inr (.inr (.inr (.inr (.inr (.inr ⟨n, k11 n⟩)))))))))

theorem No.one {x y y' : Sta} {a a' : List UInt8} (h : No x y a) (k : No x y' a') : y = y' ∧ a = a' := ⟨h.1.trans k.1.symm, h.2.trans k.2.symm⟩
theorem Jm8 {x y : Sta} (h1 : x.rs = y.rs) (h2 : x.cs = y.cs) (h3 : x.ms = y.ms) : x = y := by
 obtain ⟨a, b, c⟩ := x
 obtain ⟨a', b', c'⟩ := y
 cases h1; cases h2; cases h3
 rfl
theorem RegTo.one {rs : List (Int × Bool)} {ms : List (List Int)} {u v : Int} {r r' : List (Int × Bool)} {m m' : List (List Int)} {a a' : List UInt8} (h : RegTo rs ms u v r m a) (k : RegTo rs ms u v r' m' a') : r = r' ∧ m = m' ∧ a = a' := by
 rcases h with ⟨n, rfl, rfl, rfl⟩ | ⟨n, rfl, rfl, rfl⟩ <;> rcases k with ⟨n', rfl, rfl, rfl⟩ | ⟨n', rfl, rfl, rfl⟩
 ·exact ⟨rfl, rfl, rfl⟩
 ·exact absurd n' n
 ·exact absurd n n'
 ·exact ⟨rfl, rfl, rfl⟩
theorem WordTo.one {h : List UInt8} {L : List Int} {x y y' : Sta} {a a' : List UInt8} (k : WordTo h L x y a) (k' : WordTo h L x y' a') : y = y' ∧ a = a' := by
 rcases k.cases with ⟨rfl, q⟩ | ⟨rfl, q⟩ | ⟨rfl, q⟩ | ⟨rfl, q⟩ | ⟨rfl, q⟩ | ⟨rfl, q⟩ | ⟨rfl, q⟩ | ⟨rfl, q⟩ | ⟨rfl, q⟩ | ⟨rfl, q⟩ | ⟨n, q⟩
 ·rcases q with ⟨u, v, rfl, r, c⟩ | ⟨n, q⟩ <;> rcases k'.1 rfl with ⟨u', v', e, r', c'⟩ | ⟨n', k'⟩
  ·cases e
   obtain ⟨e1, e2, e3⟩ := r.one r'
   exact ⟨Jm8 e1 (c.trans c'.symm) e2, e3⟩
  ·exact absurd rfl n'
  ·subst e; exact absurd rfl n
  ·exact q.one k'
 ·rcases q with ⟨r, l, rfl, t, c, rfl, rfl⟩ | ⟨n, q⟩ <;> rcases k'.2.1 rfl with ⟨r', l', e, t', c', rfl, rfl⟩ | ⟨n', k'⟩
  ·cases e; exact ⟨rfl, rfl⟩
  ·exact absurd ⟨r, l, rfl, t, c⟩ n'
  ·exact absurd ⟨r', l', e, t', c'⟩ n
  ·exact q.one k'
 ·rcases q with ⟨r, rfl, t, rfl, rfl⟩ | ⟨n, q⟩ <;> rcases k'.2.2.1 rfl with ⟨r', e, t', rfl, rfl⟩ | ⟨n', k'⟩
  ·cases e; exact ⟨rfl, rfl⟩
  ·exact absurd ⟨r, rfl, t⟩ n'
  ·exact absurd ⟨r', e, t'⟩ n
  ·exact q.one k'
 ·rcases q with ⟨o, u, v, t, q, rfl, c, rfl, rfl⟩ | ⟨n, q⟩ <;> rcases k'.2.2.2.1 rfl with ⟨o', u', v', t', q', e, c', rfl, rfl⟩ | ⟨n', k'⟩
  ·cases e; exact ⟨rfl, rfl⟩
  ·exact absurd ⟨rfl, c⟩ n'
  ·subst e; exact absurd ⟨rfl, c'⟩ n
  ·exact q.one k'
 ·rcases q with ⟨f, rfl, rfl, c, w, rfl⟩ | ⟨n, q⟩ <;> rcases k'.2.2.2.2.1 rfl with ⟨f', e, rfl, c', w', rfl⟩ | ⟨n', k'⟩
  ·cases e
   obtain rfl := Jiy w w'
   exact ⟨rfl, rfl⟩
  ·exact absurd rfl n'
  ·subst e; exact absurd rfl n
  ·exact q.one k'
 ·rcases q with ⟨f, l, rfl, rfl, c, w, rfl⟩ | ⟨rfl, q⟩ <;> rcases k'.2.2.2.2.2.1 rfl with ⟨f', l', e, rfl, c', w', rfl⟩ | ⟨e, k'⟩
  ·cases e
   obtain rfl := Jiy w w'
   exact ⟨rfl, rfl⟩
  ·cases e
  ·cases e
  ·exact q.one k'
 ·rcases q with ⟨rfl, rfl, f, t, rfl⟩ | ⟨n, q⟩ <;> rcases k'.2.2.2.2.2.2.1 rfl with ⟨e, rfl, f', t', rfl⟩ | ⟨n', k'⟩
  ·obtain rfl := t.one t'
   exact ⟨rfl, rfl⟩
  ·exact absurd rfl n'
  ·exact absurd e n
  ·exact q.one k'
 ·rcases q with ⟨rfl, f, t, rfl, rfl⟩ | ⟨n, q⟩ <;> rcases k'.2.2.2.2.2.2.2.1 rfl with ⟨e, f', t', rfl, rfl⟩ | ⟨n', k'⟩
  ·obtain rfl := t.one t'
   exact ⟨rfl, rfl⟩
  ·exact absurd rfl n'
  ·exact absurd e n
  ·exact q.one k'
 ·rcases q with ⟨rfl, rfl, t⟩ | ⟨n, q⟩ <;> rcases k'.2.2.2.2.2.2.2.2.1 rfl with ⟨e, rfl, t'⟩ | ⟨n', k'⟩
  ·rcases t with ⟨t, rfl⟩ | ⟨t, rfl⟩ <;> rcases t' with ⟨t', rfl⟩ | ⟨t', rfl⟩
   ·exact ⟨rfl, rfl⟩
   ·exact absurd t t'
   ·exact absurd t' t
   ·exact ⟨rfl, rfl⟩
  ·exact absurd rfl n'
  ·exact absurd e n
  ·exact q.one k'
 ·rcases q with ⟨rfl, rfl, f, t, rfl⟩ | ⟨n, q⟩ <;> rcases k'.2.2.2.2.2.2.2.2.2.1 rfl with ⟨e, rfl, f', t', rfl⟩ | ⟨n', k'⟩
  ·obtain rfl := t.one t'
   exact ⟨rfl, rfl⟩
  ·exact absurd rfl n'
  ·exact absurd e n
  ·exact q.one k'
 ·exact q.one (k'.2.2.2.2.2.2.2.2.2.2 n)
theorem b6 {n : Int} (h : -999999 ≤ n ∧ n ≤ 999999) : B64 n := by unfold B64; omega
theorem num6 {f : List UInt8} {v : Int} : NumIs 6 f v ↔ f = digI v ∧ -999999 ≤ v ∧ v ≤ 999999 := by
 constructor
 ·intro h
  refine ⟨Ji4 h (by decide), ?_⟩
  obtain ⟨b, d, _, hd, rfl⟩ := h
  have hdec := Jb6 hd
  have hlen : d.length ≤ 6 := by have := hd.most; omega
  have hlt : valK d d.length < 1000000 := by
   have h2 : ∀ (y : List UInt8), (∀ c ∈ y, 48 ≤ c.toNat ∧ c.toNat ≤ 57) → ∀ k, k ≤ y.length → valK y k < 10 ^ k := fun y hy k => by
    induction k with
    | zero => intro _; simp [valK]
    | succ k ih =>
     intro hk
     have h1 := ih (by omega)
     have h3 := hy _ (J2k y k 0 (by omega))
     rw [valK, Nat.pow_succ]
     omega
   have := h2 d hdec.2.1 d.length (Nat.le_refl _)
   have : 10 ^ d.length ≤ 10 ^ 6 := Nat.pow_le_pow_right (by decide) hlen
   omega
  cases b <;> simp <;> omega
 ·rintro ⟨rfl, h⟩
  exact Jh6 (b6 h) 6 (by omega) (by decide) (by decide) (by decide)
theorem Jje {u v : Int} (hu : -999999 ≤ u ∧ u ≤ 999999) (hv : -999999 ≤ v ∧ v ≤ 999999) (h : digI u = digI v) : u = v :=
 Ji5 (num6.2 ⟨rfl, hu⟩) (num6.2 ⟨h, hv⟩)
theorem NumsR.one : ∀ {fs : List (List UInt8)} {L L' : List Int}, NumsR fs L → NumsR fs L' → L = L'
 | [], [], [], _, _ => rfl
 | [], _ :: _, _, h, _ => by have := h.1; simp at this
 | [], _, _ :: _, _, h => by have := h.1; simp at this
 | _ :: _, [], _, h, _ => by have := h.1; simp at this
 | _ :: _, _, [], _, h => by have := h.1; simp at this
 | f :: fs, u :: L, v :: L', h, k => by
  have h1 := h.1
  have k1 := k.1
  simp only [List.map_cons, List.cons.injEq] at h1 k1
  have e := Jje (h.2 u (by simp)) (k.2 v (by simp)) (h1.1.symm.trans k1.1)
  have e2 : L = L' := NumsR.one (fs := fs) ⟨h1.2, fun n hn => h.2 n (by simp [hn])⟩ ⟨k1.2, fun n hn => k.2 n (by simp [hn])⟩
  rw [e, e2]
theorem SLineTo.one {x y y' : Sta} {l a a' : List UInt8} (h : SLineTo x l y a) (k : SLineTo x l y' a') : y = y' ∧ a = a' := by
 obtain ⟨w, fs, e, h⟩ := h
 obtain ⟨w', fs', e', k⟩ := k
 rw [e] at e'
 obtain ⟨rfl, rfl⟩ := List.cons.inj e'
 rcases h with ⟨L, n, h⟩ | ⟨n, h⟩ <;> rcases k with ⟨L', n', k⟩ | ⟨n', k⟩
 ·obtain rfl := n.one n'
  exact h.one k
 ·exact absurd n (n' L)
 ·exact absurd n' (n L')
 ·exact h.one k
structure LaiD (w : World) : Prop extends LaiE w where
 ends : ∃ t fz, w.heap[0]? = some (.cells #[.string ⟨#[102, 117, 101, 108]⟩, .string ⟨#[100, 111, 110, 101]⟩, .string ⟨#[102, 97, 117, 108, 116]⟩] t fz)
theorem LaiD.more {w w' : World} (h : LaiD w) (m : More w w') : LaiD w' := by
 obtain ⟨a, ⟨t, fz, b⟩⟩ := h
 exact ⟨a.more m, ⟨t, fz, J1j m b⟩⟩
theorem LaiD.end_at {w : World} (h : LaiD w) (k : Int) (h0 : 0 ≤ k) (h2 : k ≤ 2) : w.cell? ⟨0, k.toNat, none⟩ = some (.string (txt (endW k))) := by
 obtain ⟨t, fz, e⟩ := h.ends
 have hk : k = 0 ∨ k = 1 ∨ k = 2 := by omega
 rw [cell_of_row _ _ _ _ _ _ e]
 rcases hk with rfl | rfl | rfl <;> rfl

set_option maxHeartbeats 1000000 in
theorem J8o (x y : Int) (w : World) (HL0 : Lai w) (hx : B64 x) (hy : B64 y) :
  Calls Tryz.prog 50 #[.agg #[V x, V y]] w fun e w' => e = .returned (.string (txt (fauL (x, y) okW))) ∧ More w w' := by
 suffices hP : ∀ P : Ending → World → Prop, (∀ w', More w w' → P (.returned (.string (txt (fauL (x, y) okW)))) w') → Calls Tryz.prog 50 #[.agg #[V x, V y]] w P from hP _ (fun w' m => ⟨rfl, m⟩)
 intro P hP0
 by_cases h0 : x = 0
 ·subst h0
  have HP : Hid (∀ w', More w w' → P (.returned (.string ⟨#[111, 107]⟩)) w') := hP0
  have HE := J04 (HP.out (w.alloc (.cells #[V 0, V y] 52)) ((More.refl _).alloc _ _))
  clear hP0 HP HL0 hx hy
  go_enter Tryz.func50, Tryz.ntmps50
  go_wp2
  exact HE.out
 ·have HP : Hid (∀ w', More w w' → P (.returned (.string (txt (ansL badW [x, y])))) w') := fun w' m => by
   have := hP0 w' m
   rw [fauL, if_neg h0] at this
   exact this
  have e1 : (x != 0) = true := by simp [h0]
  have e0 : (x == 0) = false := by simp [h0]
  have C : Hid (∀ w1, More w w1 → Calls Tryz.prog 90 #[.agg #[V x, V y]] w1 fun e w' => e = .returned (.string (txt (ansL badW [x, y]))) ∧ More w1 w') := fun w1 m => J48 x y w1 (HL0.more m) hx hy
  obtain ⟨R, HR⟩ : ∃ R, Hid (txt (ansL badW [x, y]) = R) := ⟨_, rfl⟩
  rw [HR.out] at C HP
  clear hP0 HL0 hx hy
  go_enter Tryz.func50, Tryz.ntmps50
  go_wp2_with (fail)
  refine (C.out _ ((More.refl _).alloc _ _)).mono ?_
  rintro e w1 ⟨rfl, m1⟩
  have HE := J04 (HP.out w1 (((More.refl _).alloc _ _).trans m1))
  clear m1 HP C
  go_wp2
  exact HE.out

set_option maxHeartbeats 1000000 in
theorem J9s (a : Option Addr) (n c : Nat) (x y : Int) (w : World) (HL0 : Lai w) (hx : B64 x) (hy : B64 y) (hn : n < 4611686018427387904) :
  Calls Tryz.prog 53 #[.slice a n c, .agg #[V x, V y]] w fun e w' => e = .returned (.string (txt (fauL (x, y) (ansL okW [(n : Int)])))) ∧ More w w' := by
 suffices hP : ∀ P : Ending → World → Prop, (∀ w', More w w' → P (.returned (.string (txt (fauL (x, y) (ansL okW [(n : Int)]))))) w') → Calls Tryz.prog 53 #[.slice a n c, .agg #[V x, V y]] w P from hP _ (fun w' m => ⟨rfl, m⟩)
 intro P hP0
 by_cases h0 : x = 0
 ·subst h0
  have HP : Hid (∀ w', More w w' → P (.returned (.string (txt (ansL okW [(n : Int)])))) w') := hP0
  have C : Hid (∀ (w1 : World) (b : Nat) (T : TypeId), More w w1 → Blk w1 b #[V n] T → Calls Tryz.prog 88 #[.string ⟨#[111, 107]⟩, .slice (some ⟨b, 0, none⟩) 1 1] w1 fun e w' => e = .returned (.string (txt (ansL okW [(n : Int)]))) ∧ More w1 w') := fun w1 b T m h => J9h okW n w1 b T (HL0.more m) (by decide) (by unfold B64; omega) h
  obtain ⟨R, HR⟩ : ∃ R, Hid (txt (ansL okW [(n : Int)]) = R) := ⟨_, rfl⟩
  rw [HR.out] at C HP
  clear hP0 HL0 hx hy hn
  go_enter Tryz.func53, Tryz.ntmps53
  go_wp2_with (fail)
  have hb := Blk.last (w.alloc (.cells #[V 0, V y] 52)) #[V n] 3
  refine (C.out _ _ _ (((More.refl _).alloc _ _).alloc _ _) (by simpa using hb)).mono ?_
  rintro e w1 ⟨rfl, m1⟩
  have HE := J04 (HP.out w1 ((((More.refl _).alloc _ _).alloc _ _).trans m1))
  clear m1 HP C hb
  go_wp2
  exact HE.out
 ·have HP : Hid (∀ w', More w w' → P (.returned (.string (txt (ansL badW [x, y])))) w') := fun w' m => by
   have := hP0 w' m
   rw [fauL, if_neg h0] at this
   exact this
  have e1 : (x != 0) = true := by simp [h0]
  have e0 : (x == 0) = false := by simp [h0]
  have C : Hid (∀ w1, More w w1 → Calls Tryz.prog 90 #[.agg #[V x, V y]] w1 fun e w' => e = .returned (.string (txt (ansL badW [x, y]))) ∧ More w1 w') := fun w1 m => J48 x y w1 (HL0.more m) hx hy
  obtain ⟨R, HR⟩ : ∃ R, Hid (txt (ansL badW [x, y]) = R) := ⟨_, rfl⟩
  rw [HR.out] at C HP
  clear hP0 HL0 hx hy hn
  go_enter Tryz.func53, Tryz.ntmps53
  go_wp2_with (fail)
  refine (C.out _ ((More.refl _).alloc _ _)).mono ?_
  rintro e w1 ⟨rfl, m1⟩
  have HE := J04 (HP.out w1 (((More.refl _).alloc _ _).trans m1))
  clear m1 HP C
  go_wp2
  exact HE.out

set_option maxHeartbeats 1000000 in
theorem J8p (s : ByteArray) (c : Int) (w : World) (HL0 : Lai w) (hc : B64 c) (hn : s.size < 4611686018427387904) :
  Calls Tryz.prog 54 #[.string s, V c] w fun e w' => e = .returned (.string (txt (if c = 0 then ansL okW [(s.size : Int)] else ansL badW [c]))) ∧ More w w' := by
 suffices hP : ∀ P : Ending → World → Prop, (∀ w', More w w' → P (.returned (.string (txt (if c = 0 then ansL okW [(s.size : Int)] else ansL badW [c])))) w') → Calls Tryz.prog 54 #[.string s, V c] w P from hP _ (fun w' m => ⟨rfl, m⟩)
 intro P hP0
 by_cases h0 : c = 0
 ·subst h0
  have HP : Hid (∀ w', More w w' → P (.returned (.string (txt (ansL okW [(s.size : Int)])))) w') := hP0
  obtain ⟨n, hsn⟩ : ∃ n, s.size = n := ⟨_, rfl⟩
  rw [hsn] at HP hn
  have C : Hid (∀ (w1 : World) (b : Nat) (T : TypeId), More w w1 → Blk w1 b #[V n] T → Calls Tryz.prog 88 #[.string ⟨#[111, 107]⟩, .slice (some ⟨b, 0, none⟩) 1 1] w1 fun e w' => e = .returned (.string (txt (ansL okW [(n : Int)]))) ∧ More w1 w') := fun w1 b T m h => J9h okW n w1 b T (HL0.more m) (by decide) (by unfold B64; omega) h
  obtain ⟨R, HR⟩ : ∃ R, Hid (txt (ansL okW [(n : Int)]) = R) := ⟨_, rfl⟩
  rw [HR.out] at C HP
  clear hP0 HL0 hc hn
  go_enter Tryz.func54, Tryz.ntmps54
  go_wp2_with (fail)
  have hb := Blk.last w #[V n] 3
  refine (C.out _ _ _ ((More.refl _).alloc _ _) hb).mono ?_
  rintro e w1 ⟨rfl, m1⟩
  have HE := J04 (HP.out w1 (((More.refl _).alloc _ _).trans m1))
  clear m1 HP C hb
  go_wp2
  exact HE.out
 ·have HP : Hid (∀ w', More w w' → P (.returned (.string (txt (ansL badW [c])))) w') := fun w' m => by
   have := hP0 w' m
   rw [if_neg h0] at this
   exact this
  have e1 : (c != 0) = true := by simp [h0]
  have e0 : (c == 0) = false := by simp [h0]
  have C : Hid (∀ (w1 : World) (b : Nat) (T : TypeId), More w w1 → Blk w1 b #[V c] T → Calls Tryz.prog 91 #[.string ⟨#[98, 97, 100]⟩, .slice (some ⟨b, 0, none⟩) 1 1] w1 fun e w' => e = .returned (.string (txt (ansL badW [c]))) ∧ More w1 w') := fun w1 b T m h => Jdx badW c w1 b T (HL0.more m) (by decide) hc h
  obtain ⟨R, HR⟩ : ∃ R, Hid (txt (ansL badW [c]) = R) := ⟨_, rfl⟩
  rw [HR.out] at C HP
  clear hP0 HL0 hc hn
  go_enter Tryz.func54, Tryz.ntmps54
  go_wp2_with (fail)
  have hb := Blk.last w #[V c] 45
  refine (C.out _ _ _ ((More.refl _).alloc _ _) hb).mono ?_
  rintro e w1 ⟨rfl, m1⟩
  have HE := J04 (HP.out w1 (((More.refl _).alloc _ _).trans m1))
  clear m1 HP C hb
  go_wp2
  exact HE.out

set_option maxHeartbeats 4000000 in
theorem J94 (fin val steps c : Int) (a : Option Addr) (n cp : Nat) (u : Value) (w : World) (HL0 : LaiD w) (hc : B64 c) (hf : c = 0 → RunB fin val steps n) :
  Calls Tryz.prog 51 #[.agg #[V fin, V val, V steps, .slice a n cp, u], V c] w fun e w' => e = .returned (.string (txt (ranL c fin val steps n))) ∧ More w w' := by
 suffices hP : ∀ P : Ending → World → Prop, (∀ w', More w w' → P (.returned (.string (txt (ranL c fin val steps n)))) w') → Calls Tryz.prog 51 #[.agg #[V fin, V val, V steps, .slice a n cp, u], V c] w P from hP _ (fun w' m => ⟨rfl, m⟩)
 intro P hP0
 obtain ⟨W, HW⟩ : ∃ w_ : World, Hid (w_ = w.alloc (.cells #[V fin, V val, V steps, .slice a n cp, u] 44)) := ⟨_, rfl⟩
 have HmW : Hid (More w W) := HW.out ▸ (More.refl _).alloc _ _
 have HbW : Hid (Blk W w.heap.size #[V fin, V val, V steps, .slice a n cp, u] 44) := HW.out ▸ Blk.last _ _ _
 obtain ⟨N, HN⟩ : ∃ x, Hid (w.heap.size = x) := ⟨_, rfl⟩
 rw [HN.out] at HbW
 by_cases h0 : c = 0
 ·subst h0
  obtain ⟨f0, f2, hv, hs, hn⟩ := hf rfl
  have e : ranL 0 fin val steps n = ansL (endW fin) [val, steps, n] := by simp [ranL]
  have HP : Hid (∀ w', More w w' → P (.returned (.string (txt (ansL (endW fin) [val, steps, n])))) w') := fun w' m => by rw [← e]; exact hP0 w' m
  have he5 : (endW fin).length ≤ 5 := by unfold endW; split <;> decide
  have C1 : Hid (∀ (w1 : World) (b : Nat) (T : TypeId), More w w1 → Blk w1 b #[V val] T → Calls Tryz.prog 92 #[.string (txt (endW fin)), .slice (some ⟨b, 0, none⟩) 1 1] w1 fun e w' => e = .returned (.string (txt (ansL (endW fin) [val]))) ∧ More w1 w') := fun w1 b T m h => Jnb (endW fin) val w1 b T (HL0.toLai.more m) (by omega) hv h
  have C2 : Hid (∀ (w1 : World) (b : Nat) (T : TypeId), More w w1 → Blk w1 b #[V steps, V n] T → Calls Tryz.prog 88 #[.string (txt (ansL (endW fin) [val])), .slice (some ⟨b, 0, none⟩) 2 2] w1 fun e w' => e = .returned (.string (txt (ansL (endW fin) [val, steps, n]))) ∧ More w1 w') := fun w1 b T m h => by
   have := Jog (ansL (endW fin) [val]) steps n w1 b T (HL0.toLai.more m) (J7f _ _ he5) hs (by unfold B64; omega) h
   rw [Jaz] at this
   exact this
  have Hend : Hid (∀ w1, More w w1 → w1.cell? ⟨0, fin.toNat, none⟩ = some (.string (txt (endW fin)))) := fun w1 m => (HL0.more m).end_at fin f0 f2
  obtain ⟨E0, HE0⟩ : ∃ R, Hid (txt (endW fin) = R) := ⟨_, rfl⟩
  obtain ⟨R1, HR1⟩ : ∃ R, Hid (txt (ansL (endW fin) [val]) = R) := ⟨_, rfl⟩
  obtain ⟨R2, HR2⟩ : ∃ R, Hid (txt (ansL (endW fin) [val, steps, n]) = R) := ⟨_, rfl⟩
  rw [HR2.out] at C2 HP
  rw [HR1.out] at C1 C2
  rw [HE0.out] at C1 Hend
  have hfin : fin < 3 := by omega
  obtain ⟨S, HS⟩ : ∃ S : World → Prop, Hid (∀ w', S w' ↔ More W w') := ⟨_, fun _ => Iff.rfl⟩
  have k0 : ∀ i : { w' // S w' }, i.val.cell? ⟨N, 0, none⟩ = some (V fin) := fun i => ((HS.out _).1 i.property).cell (HbW.out.cell rfl)
  have k1 : ∀ i : { w' // S w' }, i.val.cell? ⟨N, 1, none⟩ = some (V val) := fun i => ((HS.out _).1 i.property).cell (HbW.out.cell rfl)
  have k2 : ∀ i : { w' // S w' }, i.val.cell? ⟨N, 2, none⟩ = some (V steps) := fun i => ((HS.out _).1 i.property).cell (HbW.out.cell rfl)
  have k3 : ∀ i : { w' // S w' }, i.val.cell? ⟨N, 3, none⟩ = some (.slice a n cp) := fun i => ((HS.out _).1 i.property).cell (HbW.out.cell rfl)
  have k4 : ∀ i : { w' // S w' }, i.val.cell? ⟨0, fin.toNat, none⟩ = some (.string E0) := fun i => Hend.out _ (HmW.out.trans ((HS.out _).1 i.property))
  have HS0 : S W.drew := (HS.out _).2 (More.refl _).drew
  have hne : Nonempty { w' // S w' } := ⟨⟨_, HS0⟩⟩
  obtain ⟨wd, Hwd⟩ : ∃ wd : World, Hid (wd = W.drew) := ⟨_, rfl⟩
  have Hmd : Hid (More W wd) := Hwd.out ▸ (More.refl _).drew
  have HE : Hid (∀ w', More W w' → P (.returned (.string R2)) w') := fun w' m => HP.out w' (HmW.out.trans m)
  have HF1 : Hid (∀ (w1 : World) (b : Nat) (T : TypeId), More W w1 → Blk w1 b #[V val] T → Calls Tryz.prog 92 #[.string E0, .slice (some ⟨b, 0, none⟩) 1 1] w1 fun e w' => e = .returned (.string R1) ∧ More w1 w') := fun w1 b T m => C1.out w1 b T (HmW.out.trans m)
  have HF2 : Hid (∀ (w1 : World) (b : Nat) (T : TypeId), More W w1 → Blk w1 b #[V steps, V n] T → Calls Tryz.prog 88 #[.string R1, .slice (some ⟨b, 0, none⟩) 2 2] w1 fun e w' => e = .returned (.string R2) ∧ More w1 w') := fun w1 b T m => C2.out w1 b T (HmW.out.trans m)
  clear HP C1 C2 HbW HmW Hend hP0 hf hc HL0 hv hs hn e he5 f2
  go_enter Tryz.func51, Tryz.ntmps51
  go_wp2_with (fail)
  rw [← HW.out]
  rw [HN.out]
  refine J1n (S := S) (by kernel_rfl) HS0 ?_
  refine J0a 0 rfl (by kernel_rfl) HS0 (by kernel_rfl) (fun K hK => ?_); go_simp; refine hK _ _ ?_; clear hK K
  refine J0a 1 rfl (by kernel_rfl) HS0 (by kernel_rfl) (fun K hK => ?_); go_simp; refine hK _ _ ?_; clear hK K
  refine J0a 2 rfl (by kernel_rfl) HS0 (by kernel_rfl) (fun K hK => ?_); go_simp; refine hK _ _ ?_; clear hK K
  refine J0a 3 rfl (by kernel_rfl) HS0 (by kernel_rfl) (fun K hK => ?_); go_simp; refine hK _ _ ?_; clear hK K
  refine J0a 4 rfl (by kernel_rfl) HS0 (by kernel_rfl) (fun K hK => ?_); go_simp; refine hK _ _ ?_; clear hK K
  refine J0a 5 rfl (by kernel_rfl) HS0 (by kernel_rfl) (fun K hK => ?_); go_simp; refine hK _ _ ?_; clear hK K
  refine J0a 8 rfl (by kernel_rfl) HS0 (by kernel_rfl) (fun K hK => ?_); go_simp; refine hK _ _ ?_; clear hK K
  refine J0a 9 rfl (by kernel_rfl) HS0 (by kernel_rfl) (fun K hK => ?_); go_simp; refine hK _ _ ?_; clear hK K
  refine J0a 10 rfl (by kernel_rfl) HS0 (by kernel_rfl) (fun K hK => ?_); go_simp; refine hK _ _ ?_; clear hK K
  refine J0a 11 rfl (by kernel_rfl) HS0 (by kernel_rfl) (fun K hK => ?_); go_simp; refine hK _ _ ?_; clear hK K
  refine J0a 12 rfl (by kernel_rfl) HS0 (by kernel_rfl) (fun K hK => ?_); go_simp; refine hK _ _ ?_; clear hK K
  rw [← Hwd.out]
  clear k0 k1 k2 k3 k4
  apply J91
  ·intro key
   refine J31 6 13 (by kernel_rfl) ?_ ?_
   ·refine J09 rfl (by kernel_rfl) (fun K hK => ?_); go_simp
    obtain ⟨v1, Hv1⟩ : ∃ w_ : World, Hid (w_ = wd.alloc (.cells #[V val] 2)) := ⟨_, rfl⟩
    have mv1 : More wd v1 := Hv1.out ▸ (More.refl _).alloc _ _
    have bA : Blk v1 wd.heap.size #[V val] 2 := Hv1.out ▸ Blk.last _ _ _
    rw [← Hv1.out]
    clear Hv1
    refine hK _ _ ((HS.out _).2 (Hmd.out.trans mv1)) ?_; clear hK K
    have HbA := J04 bA; have Hm1 := J04 mv1; clear bA mv1
    refine J31 7 13 (by kernel_rfl) ?_ ?_
    ·refine J09 rfl (by kernel_rfl) (fun K hK => ?_); go_simp
     refine (HF1.out v1 _ _ (Hmd.out.trans Hm1.out) HbA.out).mono ?_
     rintro e v2 ⟨rfl, mv2⟩
     go_simp
     refine hK _ _ ((HS.out _).2 ((Hmd.out.trans Hm1.out).trans mv2)) ?_; clear hK K
     have Hm2 := J04 mv2; clear mv2
     refine J0n 13 (by kernel_rfl) ?_
     refine J09 rfl (by kernel_rfl) (fun K hK => ?_); go_simp
     obtain ⟨v3, Hv3⟩ : ∃ w_ : World, Hid (w_ = v2.alloc (.cells #[V steps, V n] 3)) := ⟨_, rfl⟩
     have mv3 : More v2 v3 := Hv3.out ▸ (More.refl _).alloc _ _
     have bC : Blk v3 v2.heap.size #[V steps, V n] 3 := Hv3.out ▸ Blk.last _ _ _
     rw [← Hv3.out]
     clear Hv3
     refine hK _ _ ((HS.out _).2 (((Hmd.out.trans Hm1.out).trans Hm2.out).trans mv3)) ?_; clear hK K
     have F : Hid (Blk v3 v2.heap.size #[V steps, V n] 3 ∧ More W v3) := ⟨bC, ((Hmd.out.trans Hm1.out).trans Hm2.out).trans mv3⟩
     clear bC mv3
     refine J0t (listed' := #[true, true, true, true, true, true, true, true, true, true, true, true, true, true, false, false]) (by kernel_rfl) ?_
     clear HbA Hm1 Hm2
     generalize v2.heap.size = gC at F ⊢
     generalize wd.heap.size = gA
     clear v1 v2
     revert v3 gC gA
     exact key
    ·refine J09 rfl (by kernel_rfl) (fun K hK => ?_); go_simp
     obtain ⟨v2, Hv2⟩ : ∃ w_ : World, Hid (w_ = v1.alloc (.cells #[V steps, V n] 3)) := ⟨_, rfl⟩
     have mv2 : More v1 v2 := Hv2.out ▸ (More.refl _).alloc _ _
     have bC : Blk v2 v1.heap.size #[V steps, V n] 3 := Hv2.out ▸ Blk.last _ _ _
     rw [← Hv2.out]
     clear Hv2
     refine hK _ _ ((HS.out _).2 ((Hmd.out.trans Hm1.out).trans mv2)) ?_; clear hK K
     have HbC := J04 bC; have Hm2 := J04 mv2; clear bC mv2
     refine J0n 7 (by kernel_rfl) ?_
     refine J09 rfl (by kernel_rfl) (fun K hK => ?_); go_simp
     refine (HF1.out v2 _ _ ((Hmd.out.trans Hm1.out).trans Hm2.out) (HbA.out.more Hm2.out)).mono ?_
     rintro e v3 ⟨rfl, mv3⟩
     go_simp
     refine hK _ _ ((HS.out _).2 (((Hmd.out.trans Hm1.out).trans Hm2.out).trans mv3)) ?_; clear hK K
     have F : Hid (Blk v3 v1.heap.size #[V steps, V n] 3 ∧ More W v3) := ⟨HbC.out.more mv3, ((Hmd.out.trans Hm1.out).trans Hm2.out).trans mv3⟩
     refine J0t (listed' := #[true, true, true, true, true, true, true, true, true, true, true, true, true, true, false, false]) (by kernel_rfl) ?_
     exact key _ _ F _
   ·refine J09 rfl (by kernel_rfl) (fun K hK => ?_); go_simp
    obtain ⟨v1, Hv1⟩ : ∃ w_ : World, Hid (w_ = wd.alloc (.cells #[V steps, V n] 3)) := ⟨_, rfl⟩
    have mv1 : More wd v1 := Hv1.out ▸ (More.refl _).alloc _ _
    have bC : Blk v1 wd.heap.size #[V steps, V n] 3 := Hv1.out ▸ Blk.last _ _ _
    rw [← Hv1.out]
    clear Hv1
    refine hK _ _ ((HS.out _).2 (Hmd.out.trans mv1)) ?_; clear hK K
    have HbC := J04 bC; have Hm1 := J04 mv1; clear bC mv1
    refine J0n 6 (by kernel_rfl) ?_
    refine J09 rfl (by kernel_rfl) (fun K hK => ?_); go_simp
    obtain ⟨v2, Hv2⟩ : ∃ w_ : World, Hid (w_ = v1.alloc (.cells #[V val] 2)) := ⟨_, rfl⟩
    have mv2 : More v1 v2 := Hv2.out ▸ (More.refl _).alloc _ _
    have bA : Blk v2 v1.heap.size #[V val] 2 := Hv2.out ▸ Blk.last _ _ _
    rw [← Hv2.out]
    clear Hv2
    refine hK _ _ ((HS.out _).2 ((Hmd.out.trans Hm1.out).trans mv2)) ?_; clear hK K
    have HbA := J04 bA; have Hm2 := J04 mv2; clear bA mv2
    refine J0n 7 (by kernel_rfl) ?_
    refine J09 rfl (by kernel_rfl) (fun K hK => ?_); go_simp
    refine (HF1.out v2 _ _ ((Hmd.out.trans Hm1.out).trans Hm2.out) HbA.out).mono ?_
    rintro e v3 ⟨rfl, mv3⟩
    go_simp
    refine hK _ _ ((HS.out _).2 (((Hmd.out.trans Hm1.out).trans Hm2.out).trans mv3)) ?_; clear hK K
    have F : Hid (Blk v3 wd.heap.size #[V steps, V n] 3 ∧ More W v3) := ⟨(HbC.out.more Hm2.out).more mv3, ((Hmd.out.trans Hm1.out).trans Hm2.out).trans mv3⟩
    refine J0t (listed' := #[true, true, true, true, true, true, true, true, true, true, true, true, true, true, false, false]) (by kernel_rfl) ?_
    exact key _ _ F _
  ·intro v3 gC F gA
   refine J0n 14 (by kernel_rfl) ?_
   refine J09 rfl (by kernel_rfl) (fun K hK => ?_); go_simp
   refine (HF2.out v3 _ _ F.out.2 F.out.1).mono ?_
   rintro e v4 ⟨rfl, m4⟩
   go_simp
   refine hK _ _ ((HS.out _).2 (F.out.2.trans m4)) ?_; clear hK K
   have Hend := J04 (HE.out v4 (F.out.2.trans m4))
   refine J0a 15 rfl (by kernel_rfl) ((HS.out _).2 (F.out.2.trans m4)) (by kernel_rfl) (fun K hK => ?_); go_simp; refine hK _ _ ?_; clear hK K
   refine J6h (by kernel_rfl) ?_
   clear m4 F HE HF1 HF2 hne HS0
   go_wp2
   exact Hend.out
 ·have e : ranL c fin val steps n = ansL badW [c] := by simp [ranL, h0]
  have HP : Hid (∀ w', More w w' → P (.returned (.string (txt (ansL badW [c])))) w') := fun w' m => by rw [← e]; exact hP0 w' m
  have e0 : (c == 0) = false := by simp [h0]
  have e1 : (c != 0) = true := by simp [h0]
  have C : Hid (∀ (w1 : World) (b : Nat) (T : TypeId), More w w1 → Blk w1 b #[V c] T → Calls Tryz.prog 91 #[.string ⟨#[98, 97, 100]⟩, .slice (some ⟨b, 0, none⟩) 1 1] w1 fun e w' => e = .returned (.string (txt (ansL badW [c]))) ∧ More w1 w') := fun w1 b T m h => Jdx badW c w1 b T (HL0.toLai.more m) (by decide) hc h
  obtain ⟨R, HR⟩ : ∃ R, Hid (txt (ansL badW [c]) = R) := ⟨_, rfl⟩
  rw [HR.out] at C HP
  clear hP0 hf hc h0 e HL0 HbW HN
  go_enter Tryz.func51, Tryz.ntmps51
  go_wp2_with (fail)
  rw [← HW.out]
  have hb := Blk.last W #[V c] 45
  have hz : W.heap.size = w.heap.size + 1 := by rw [HW.out]; simp
  refine (C.out _ _ _ (HmW.out.alloc _ _) (by rw [← hz]; exact hb)).mono ?_
  rintro e w1 ⟨rfl, m1⟩
  have HE := J04 (HP.out w1 ((HmW.out.alloc _ _).trans m1))
  clear m1 HP C hb hz
  go_wp2
  exact HE.out
theorem Jnv : Tryz.prog.cellsOf 159 = 3 := by kernel_rfl
def endsT : List (List UInt8) := [[102, 117, 101, 108], [100, 111, 110, 101], [102, 97, 117, 108, 116]]
theorem Jfe {w : World} {fuel : Nat} {cs : List Value} {p : List MemPlace} (h : DataW.trod (fun _ => ()) Tryz.prog w 0 (fun _ => true) false fuel 159 cs = some (.agg (endsT.map fun l => .lit (.string l)), p)) : cs = endsT.map (fun l => Value.string (txt l)) := by
 cases fuel with
 | zero => simp [DataW.trod] at h
 | succ fuel =>
  simp only [DataW.trod, Tryz.underlying159, Jnv, c_str] at h
  split at h
  ·rename_i hl
   obtain ⟨xs, hm, hx⟩ := Option.map_eq_some_iff.1 h
   have hxs : xs.map (·.1) = endsT.map (fun l => DataW.lit (.string l)) := by
    have := congrArg Prod.fst hx
    simpa using this
   have part : ∀ i l, endsT[i]? = some l → cs[i]? = some (Value.string (txt l)) := fun i l hi => by
    have h3 : i < 3 := (List.getElem?_eq_some_iff.1 hi).1
    obtain ⟨b, hb, hf⟩ := Lib.mapM_at hm i i (by simp [h3])
    have h1 : (xs.map (·.1))[i]? = some b.1 := by simp [hb]
    rw [hxs, List.getElem?_map, hi] at h1
    obtain ⟨b1, b2⟩ := b
    obtain rfl := Option.some.inj h1
    obtain ⟨z, hz, hx', _⟩ := DataW.trod_string Tryz.underlying9 hf
    have e0 : z.data.toList = l := by injection hx' with e0 _; injection e0 with e0; injection e0 with e0; exact e0.symm
    rw [← J8d e0]
    exact J6a (by simpa using hz)
   have hcl : cs.length = 3 := by omega
   match cs, hcl, part with
   | [c0, c1, c2], _, part =>
    have p0 := part 0 _ rfl
    have p1 := part 1 _ rfl
    have p2 := part 2 _ rfl
    simp at p0 p1 p2
    subst p0 p1 p2
    rfl
  ·cases h
theorem Jk9 {w : World} {r : List (String × DataW Unit)} {n : String} (hn : Tryz.prog.globalNamed n = some 0) (h : laidMet Tryz.prog ((n, .agg (endsT.map fun l => .lit (.string l))) :: r) w) : ∃ t fz, w.heap[0]? = some (.cells #[.string ⟨#[102, 117, 101, 108]⟩, .string ⟨#[100, 111, 110, 101]⟩, .string ⟨#[102, 97, 117, 108, 116]⟩] t fz) := by
 obtain ⟨g, t, cs, fuel, p, h1, h2, h3, h4⟩ := J4x h
 obtain rfl := Option.some.inj (h1.symm.trans hn)
 obtain rfl := Option.some.inj (h2.symm.trans (show (Tryz.prog.globals[0]?).map (·.type) = some 159 by kernel_rfl))
 have e := Jfe h4
 obtain ⟨t, fz, hh⟩ := J6c hn h3
 refine ⟨t, fz, ?_⟩
 have : cs = #[.string ⟨#[102, 117, 101, 108]⟩, .string ⟨#[100, 111, 110, 101]⟩, .string ⟨#[102, 97, 117, 108, 116]⟩] := by rw [← Array.toArray_toList (xs := cs), e]; rfl
 rw [← this]
 exact hh
theorem Jka {w : World} {r : List (String × DataW Unit)} {n : String} {d : DataW Unit} (hn : Tryz.prog.globalNamed n = some 7) (h : laidMet Tryz.prog ((n, d) :: r) w) : 8 ≤ w.heap.size := by
 obtain ⟨g, t, cs, fuel, p, h1, h2, h3, h4⟩ := J4x h
 obtain rfl := Option.some.inj (h1.symm.trans hn)
 obtain ⟨t, fz, hh⟩ := J6c hn h3
 have := (Array.getElem?_eq_some_iff.1 hh).1
 omega
theorem Jhv {w : World} (h : laidMetH Tryz.prog Rows.driveOnRow.laid w) : LaiD w ∧ 8 ≤ w.heap.size := by
 have h : laidMet Tryz.prog Rows.driveOnRow.laid w := h
 exact ⟨⟨⟨⟨Jhx (by kernel_rfl) h.tail.tail.tail.tail.tail, Jmp (by kernel_rfl) h.tail.tail⟩, Jhw (by kernel_rfl) (by kernel_rfl) h.tail.tail.tail.tail, Jhw (by kernel_rfl) (by kernel_rfl) h.tail.tail.tail⟩, Jk9 (by kernel_rfl) h.tail.tail.tail.tail.tail.tail⟩, Jka (by kernel_rfl) h.tail⟩
end
section
open Go.RowKit
set_option linter.unusedSimpArgs false
set_option linter.unusedVariables false
def valF (a : Nat) (l : List UInt8) : Nat := l.foldl (fun a c => a * 10 + (c.toNat - 48)) a
theorem J6b (a : Nat) (c : UInt8) (r : List UInt8) : valF a (c :: r) = valF (a * 10 + (c.toNat - 48)) r := List.foldl_cons ..
theorem Jc7 : ∀ (y x : List UInt8), valF (valK x x.length) y = valK (x ++ y) (x ++ y).length
 | [], x => by rw [List.append_nil]; rfl
 | c :: y, x => by
  rw [J6b, show valK x x.length * 10 + (c.toNat - 48) = valK (x ++ [c]) (x ++ [c]).length by rw [J8f]; omega, Jc7 y (x ++ [c]), List.append_assoc]
  rfl
theorem Jit : ∀ (y : List UInt8) (a : Nat), a ≤ valF a y
 | [], a => Nat.le_refl _
 | c :: y, a => by rw [J6b]; have := Jit y (a * 10 + (c.toNat - 48)); omega
theorem Jbr (M : Nat) (hM : 9223372036854775808 ≤ M) : ∀ (y : List UInt8) (a : Nat), (∀ b ∈ y, 48 ≤ b.toNat ∧ b.toNat ≤ 57) → valF a y ≤ 9223372036854775808 → Lib.parseUintM M a y = .ok (valF a y)
 | [], a, _, _ => rfl
 | c :: y, a, hd, hv => by
  have h1 := hd c (by simp)
  rw [J6b] at hv
  have h2 := Jit y (a * 10 + (c.toNat - 48))
  rw [Lib.parseUintM, if_pos h1, if_neg (by omega), if_neg (by omega), J6b]
  exact Jbr M hM y _ (fun b hb => hd b (by simp [hb])) hv
theorem Jib {v : Int} (h : B64 v) : Lib.parseIntB 64 (digI v) = .ok v := by
 unfold B64 at h
 have e : (10 : Nat) ^ 20 = 100000000000000000000 := by decide
 obtain ⟨⟨d1, d2, _⟩, d3, _⟩ := J9r 20 v.natAbs (by rw [e]; omega) (by omega)
 have hv : valF 0 (dig 20 v.natAbs) = v.natAbs := by
  have := Jc7 (dig 20 v.natAbs) []
  rw [List.nil_append, d3] at this
  exact this
 have hp : Lib.parseUintB 64 (dig 20 v.natAbs) = .ok v.natAbs := by
  unfold Lib.parseUintB
  rw [if_neg (by intro e; rw [e] at d1; simp at d1), Jbr _ (by decide) _ _ d2 (by rw [hv]; omega), hv]
 have e63 : (2 : Nat) ^ (64 - 1) = 9223372036854775808 := by decide
 unfold digI
 by_cases c : v < 0
 ·rw [if_pos c, List.singleton_append, Lib.parseIntB]
  simp only [show ((45 : UInt8).toNat = 43 ∨ (45 : UInt8).toNat = 45) = True from by decide, if_true, hp]
  show (if ¬ (45 : UInt8).toNat = 45 ∧ 2 ^ (64 - 1) ≤ v.natAbs then _ else if (45 : UInt8).toNat = 45 ∧ 2 ^ (64 - 1) < v.natAbs then _ else Lib.NumEnd.ok (if (45 : UInt8).toNat = 45 then -(v.natAbs : Int) else v.natAbs)) = _
  rw [if_neg (fun q => q.1 rfl), if_neg (by rw [e63]; omega), if_pos (show (45 : UInt8).toNat = 45 from rfl)]
  congr 1
  omega
 ·rw [if_neg c, List.nil_append]
  generalize hd : dig 20 v.natAbs = d at *
  cases d with
  | nil => simp at d1
  | cons b r =>
   have hb := d2 b (by simp)
   rw [Lib.parseIntB]
   simp only [if_neg (show ¬ (b.toNat = 43 ∨ b.toNat = 45) by omega), hp]
   show (if ¬ b.toNat = 45 ∧ 2 ^ (64 - 1) ≤ v.natAbs then _ else if b.toNat = 45 ∧ 2 ^ (64 - 1) < v.natAbs then _ else Lib.NumEnd.ok (if b.toNat = 45 then -(v.natAbs : Int) else v.natAbs)) = _
   rw [if_neg (by rw [e63]; omega), if_neg (by omega), if_neg (by omega)]
   congr 1
   omega
theorem J6w {l : List UInt8} {v : Int} {most : Int} (h : NumIs most l v) : (l.length : Int) ≤ most + 1 := by
 obtain ⟨b, d, s, k, _⟩ := h
 have := k.most
 rcases s with ⟨_, rfl⟩ | ⟨_, rfl, _⟩
 ·simp; omega
 ·omega
section
variable {σ : Type} (st : σ → UInt8 → Int → σ)
end
end
section
open Go.RowKit
set_option linter.unusedSimpArgs false
set_option linter.unusedVariables false
set_option maxRecDepth 8000
theorem Jeb {v : Int} (h : -999999 ≤ v ∧ v ≤ 999999) : Lib.atoi (digI v) = some v := by
 have h1 := Jib (b6 h)
 have hl : (digI v).length ≤ 18 := by
  have := J6w (num6.2 ⟨rfl, h⟩ : NumIs 6 (digI v) v)
  omega
 rw [Lib.parseIntB_64, Lib.atoiAll_short _ hl] at h1
 cases e : Lib.atoi (digI v) with
 | none => rw [e] at h1; cases h1
 | some n => rw [e] at h1; cases h1; rfl
theorem Jg5 (w : World) (t : TypeId) (s : ByteArray) : More w (Lib.bytesWorld w t s) := Lib.bytesWorld_below w t s
theorem Jfo (n : Int) (hn : B64 n) (w : World) (h : Lai w) : Calls Tryz.prog 123 #[V n] w fun e w' => e = .returned (.string (txt (digI n))) ∧ More w w' := by
 obtain ⟨t, fz, hp⟩ := h.pow
 refine (Any.strconv_Itoa Tryz.laysM171 n hn.1 hn.2 w ?_).mono ?_
 ·show World.var? _ _ _ = _
  unfold World.var?
  rw [show Tryz.prog.globalNamed _ = some 3 by kernel_rfl]
  show (match w.heap[3]? with | some (.cells cs _ _) => some cs | _ => none) = _
  rw [hp]
 ·rintro e w' ⟨rfl, k, os, rfl⟩
  refine ⟨by rw [Jev hn], ?_⟩
  exact ⟨rfl, rfl, rfl, by simp [Sort.grow], fun i hi => by simp [Sort.grow, Array.getElem?_append, hi]⟩

set_option maxHeartbeats 2000000 in
theorem J9z (l : List UInt8) (w : World) (HL0 : LaiE w) (hl : l.length < 4611686018427387904) :
  Calls Tryz.prog 87 #[.string (txt l)] w fun e w' => ∃ (v : Int) (ok : Bool), e = .returned (.tuple #[V v, .bool ok]) ∧ Jau 6 l v ok ∧ More w w' := by
 suffices hP : ∀ P : Ending → World → Prop, (∀ (v : Int) (ok : Bool) w', Jau 6 l v ok → More w w' → P (.returned (.tuple #[V v, .bool ok])) w') → Calls Tryz.prog 87 #[.string (txt l)] w P from hP _ (fun v ok w' a b => ⟨v, ok, rfl, a, b⟩)
 intro P hP0
 have HP : Hid (∀ (v : Int) (ok : Bool) w', Jau 6 l v ok → More w w' → P (.returned (.tuple #[V v, .bool ok])) w') := hP0
 have hsz := J0h l
 clear hP0
 obtain ⟨ss, Hss⟩ : ∃ x, Hid (txt l = x) := ⟨_, rfl⟩
 obtain ⟨ln, Hln⟩ : ∃ x, Hid (l.length = x) := ⟨_, rfl⟩
 rw [Hss.out, Hln.out] at hsz
 rw [Hss.out]
 rw [Hln.out] at hl
 by_cases h7 : 7 < ln
 ·have h7i : (7 : Int) < ln := by omega
  have HE := J04 (HP.out 0 false w (.inr ⟨rfl, fun v' h => by have := J6w h; have := Hln.out; omega⟩) (More.refl _))
  clear HP
  go_enter Tryz.func87, Tryz.ntmps87
  go_wp2
  exact HE.out
 ·have h7i : ¬ (7 : Int) < ln := by omega
  cases ha : Lib.atoi l with
  | none =>
   have CA : Hid (Calls Tryz.prog 122 #[.string ss] w fun e w' => ∃ (t : TypeId) (N : Nat), e = .returned (.tuple #[V 0, .iface t (.pointer (some ⟨N, 0, none⟩))]) ∧ More w w') := by
    obtain ⟨tp, p, t, fz, e⟩ := HL0.syn
    rw [← Hss.out]
    refine (Any.strconv_Atoi_err_var Tryz.laysC172 (txt l) (by rw [J0h]; have := Hln.out; omega) ha tp p w (Joh (by kernel_rfl) e)).mono ?_
    rintro e w' ⟨N, rfl, _, _, b⟩
    exact ⟨_, N, rfl, b⟩
   have HE := J04 (fun w' m => HP.out 0 false w' (.inr ⟨rfl, fun v' h => by rw [(num6.1 h).1, Jeb (num6.1 h).2] at ha; cases ha⟩) m)
   clear HP ha HL0
   go_enter Tryz.func87, Tryz.ntmps87
   go_wp2_with (fail)
   refine CA.out.mono ?_
   rintro e w1 ⟨t, N, rfl, m1⟩
   have HF := J04 (HE.out w1 m1)
   clear HE CA m1
   go_wp2
   exact HF.out
  | some n =>
   have hb : B64 n := by
    have := Lib.atoi_bound ha (by have := Hln.out; omega)
    unfold B64
    omega
   have CA : Hid (Calls Tryz.prog 122 #[.string ss] w fun e w' => e = .returned (.tuple #[V n, .nilIface]) ∧ More w w') := by
    rw [← Hss.out]
    refine (Any.strconv_Atoi Tryz.lays172 (txt l) n (by rw [J0h]; have := Hln.out; omega) ha w).mono ?_
    rintro e w' ⟨rfl, t, rfl⟩
    exact ⟨rfl, Jg5 _ _ _⟩
   have CI : Hid (∀ w1, More w w1 → Calls Tryz.prog 123 #[V n] w1 fun e w' => e = .returned (.string (txt (digI n))) ∧ More w1 w') := fun w1 m => Jfo n hb w1 (HL0.toLai.more m)
   have HE : Hid (∀ ok w', (ok = true ↔ l = digI n ∧ -999999 ≤ n ∧ n ≤ 999999) → More w w' → P (.returned (.tuple #[V n, .bool ok])) w') := fun ok w' h m => HP.out n ok w' (by
    cases ok with
    | true => exact .inl ⟨rfl, num6.2 (h.1 rfl)⟩
    | false =>
     refine .inr ⟨rfl, fun v' hv => ?_⟩
     have hv := num6.1 hv
     have e := Jeb hv.2
     rw [← hv.1, ha] at e
     obtain rfl := Option.some.inj e
     exact absurd (h.2 hv) (by simp)) m
   clear HP ha HL0
   by_cases hd : l = digI n
   ·rw [← hd, Hss.out] at CI
    by_cases h1 : -999999 ≤ n
    ·by_cases h2 : n ≤ 999999
     ·have HF := J04 (fun w2 m => HE.out true w2 ⟨fun _ => ⟨hd, h1, h2⟩, fun _ => rfl⟩ m)
      clear HE hd
      go_enter Tryz.func87, Tryz.ntmps87
      go_wp2_with (fail)
      refine CA.out.mono ?_
      rintro e w1 ⟨rfl, m1⟩
      have CI1 := J04 (CI.out w1 m1)
      have Hm1 := J04 m1
      clear CA CI m1
      go_wp2_with (fail)
      refine CI1.out.mono ?_
      rintro e w2 ⟨rfl, m2⟩
      have HG := J04 (HF.out w2 (Hm1.out.trans m2))
      clear HF CI1 m2
      go_wp2
      exact HG.out
     ·have HF := J04 (fun w2 m => HE.out false w2 ⟨fun h => by simp at h, fun h => absurd h.2.2 h2⟩ m)
      have d2 : decide (n ≤ 999999) = false := decide_eq_false h2
      clear HE hd h2
      go_enter Tryz.func87, Tryz.ntmps87
      go_wp2_with (fail)
      refine CA.out.mono ?_
      rintro e w1 ⟨rfl, m1⟩
      have CI1 := J04 (CI.out w1 m1)
      have Hm1 := J04 m1
      clear CA CI m1
      go_wp2_with (fail)
      refine CI1.out.mono ?_
      rintro e w2 ⟨rfl, m2⟩
      have HG := J04 (HF.out w2 (Hm1.out.trans m2))
      clear HF CI1 m2
      go_wp2
      exact HG.out
    ·have HF := J04 (fun w2 m => HE.out false w2 ⟨fun h => by simp at h, fun h => absurd h.2.1 h1⟩ m)
     have d2 : decide (-999999 ≤ n) = false := decide_eq_false h1
     clear HE hd h1
     go_enter Tryz.func87, Tryz.ntmps87
     go_wp2_with (fail)
     refine CA.out.mono ?_
     rintro e w1 ⟨rfl, m1⟩
     have CI1 := J04 (CI.out w1 m1)
     have Hm1 := J04 m1
     clear CA CI m1
     go_wp2_with (fail)
     refine CI1.out.mono ?_
     rintro e w2 ⟨rfl, m2⟩
     have HG := J04 (HF.out w2 (Hm1.out.trans m2))
     clear HF CI1 m2
     go_wp2
     exact HG.out
   ·have HF := J04 (fun w2 m => HE.out false w2 ⟨fun h => by simp at h, fun h => absurd h.1 hd⟩ m)
    have hne : ¬ txt (digI n) = ss := fun e => hd (by
     have : (txt (digI n)).data.toList = ss.data.toList := by rw [e]
     rw [← Hss.out] at this
     exact this.symm)
    obtain ⟨ds, Hds⟩ : ∃ x, Hid (txt (digI n) = x) := ⟨_, rfl⟩
    have e0 : ¬ ds.toList = ss.toList := fun e => hd (by rw [← Hds.out, ← Hss.out, ByteArray.toList_mk, ByteArray.toList_mk] at e; exact e.symm)
    have e1 : (ds.toList == ss.toList) = false := by simp only [beq_eq_false_iff_ne]; exact e0
    rw [Hds.out] at CI hne
    clear HE hd
    go_enter Tryz.func87, Tryz.ntmps87
    go_wp2_with (fail)
    refine CA.out.mono ?_
    rintro e w1 ⟨rfl, m1⟩
    have CI1 := J04 (CI.out w1 m1)
    have Hm1 := J04 m1
    clear CA CI m1
    go_wp2_with (fail)
    refine CI1.out.mono ?_
    rintro e w2 ⟨rfl, m2⟩
    have HG := J04 (HF.out w2 (Hm1.out.trans m2))
    clear HF CI1 m2
    go_wp2
    exact HG.out
theorem Jes (b : UInt8) : ∀ l : List UInt8, (¬ b ∈ l ∧ Lib.indexByte l b = -1) ∨ (∃ x y, l = x ++ b :: y ∧ ¬ b ∈ x ∧ Lib.indexByte l b = x.length)
 | [] => .inl ⟨by simp, rfl⟩
 | c :: l => by
  rw [Lib.indexByte]
  by_cases e : c = b
  ·subst e
   right
   exact ⟨[], l, rfl, by simp, by simp⟩
  ·rcases Jes b l with ⟨h1, h2⟩ | ⟨x, y, h1, h2, h3⟩
   ·left
    refine ⟨fun q => ?_, by simp [e, h2]⟩
    rcases List.mem_cons.1 q with q | q
    ·exact e q.symm
    ·exact h1 q
   ·right
    refine ⟨c :: x, y, by rw [h1]; rfl, fun q => ?_, ?_⟩
    ·rcases List.mem_cons.1 q with q | q
     ·exact e q.symm
     ·exact h2 q
    ·rw [h3]
     have : ¬ (x.length : Int) = -1 := by omega
     simp [e, this]
def J6q (l : List UInt8) (b : UInt8) (d1 d2 : ByteArray) (ok : Bool) : Prop := (ok = true ∧ ∃ x y, l = x ++ b :: y ∧ ¬ b ∈ x ∧ d1 = txt x ∧ d2 = txt y) ∨ (ok = false ∧ ¬ b ∈ l ∧ d1 = txt l ∧ d2 = ByteArray.empty)

set_option maxHeartbeats 1000000 in
theorem Jjd (l : List UInt8) (hl : l.length < 4611686018427387904) (b : UInt8) (w : World) : Calls Tryz.prog 43 #[.string (txt l), .string ⟨#[b]⟩] w fun e w' => ∃ (d1 d2 : ByteArray) (ok : Bool), e = .returned (.tuple #[.string d1, .string d2, .bool ok]) ∧ J6q l b d1 d2 ok ∧ More w w' := by
 suffices hP : ∀ P : Ending → World → Prop, (∀ (d1 d2 : ByteArray) (ok : Bool) w', J6q l b d1 d2 ok → More w w' → P (.returned (.tuple #[.string d1, .string d2, .bool ok])) w') → Calls Tryz.prog 43 #[.string (txt l), .string ⟨#[b]⟩] w P from hP _ (fun d1 d2 ok w' h m => ⟨d1, d2, ok, rfl, h, m⟩)
 intro P hP0
 have HP : Hid (∀ (d1 d2 : ByteArray) (ok : Bool) w', J6q l b d1 d2 ok → More w w' → P (.returned (.tuple #[.string d1, .string d2, .bool ok])) w') := hP0
 have CI : Hid (Calls Tryz.prog 85 #[.string (txt l), .string ⟨#[b]⟩] w fun e w' => e = .returned (V (Lib.indexByte l b)) ∧ w' = w) := Any.stringslite_Index_one Tryz.lays219 (txt l) b w
 clear hP0
 have hbs : (⟨#[b]⟩ : ByteArray).size = 1 := rfl
 obtain ⟨bs, Hbs⟩ : ∃ x, Hid ((⟨#[b]⟩ : ByteArray) = x) := ⟨_, rfl⟩
 rw [Hbs.out] at CI hbs ⊢
 rcases Jes b l with ⟨h1, h2⟩ | ⟨x, y, h1, h2, h3⟩
 ·have HE := J04 (fun w' m => HP.out (txt l) ByteArray.empty false w' (.inr ⟨rfl, h1, rfl, rfl⟩) m)
  obtain ⟨ss, Hss⟩ : ∃ x, Hid (txt l = x) := ⟨_, rfl⟩
  rw [Hss.out] at CI HE ⊢
  rw [h2] at CI
  clear HP h1 h2
  go_enter Tryz.func43, Tryz.ntmps43
  go_wp2_with (fail)
  refine CI.out.mono ?_
  rintro e w' ⟨rfl, rfl⟩
  clear CI
  have HF := J04 (HE.out w' (More.refl _))
  clear HE
  go_wp2
  refine bodyPost_ret (v := .tuple #[.string ss, .string ByteArray.empty, .bool false]) (by simp [results, Tryz.results43, go_sem, *]; try rfl) rfl ?_
  exact HF.out
 ·have HE := J04 (fun w' m => HP.out (txt x) (txt y) true w' (.inl ⟨rfl, x, y, h1, h2, rfl, rfl⟩) m)
  rw [h3] at CI
  have hsz := J0h l
  have e1 := (J5p x (b :: y)).1
  have e2 := (J5p (x ++ [b]) y).2
  rw [← h1] at e1
  rw [show x ++ [b] ++ y = l by rw [h1]; simp, show (x ++ [b]).length = x.length + 1 by simp] at e2
  have hxl : x.length + 1 ≤ l.length := by rw [h1]; simp
  obtain ⟨ss, Hss⟩ : ∃ x, Hid (txt l = x) := ⟨_, rfl⟩
  obtain ⟨tx, Htx⟩ : ∃ z, Hid (txt x = z) := ⟨_, rfl⟩
  obtain ⟨ty, Hty⟩ : ∃ z, Hid (txt y = z) := ⟨_, rfl⟩
  obtain ⟨k, Hk⟩ : ∃ z, Hid (x.length = z) := ⟨_, rfl⟩
  obtain ⟨n, Hn⟩ : ∃ z, Hid (l.length = z) := ⟨_, rfl⟩
  rw [Hss.out] at CI e1 e2 hsz ⊢
  rw [Htx.out] at HE e1
  rw [Hty.out] at HE e2
  rw [Hk.out] at CI e1 e2 hxl
  rw [Hn.out] at e2 hsz hxl hl
  have h0 : (0 : Int) ≤ k := by omega
  have hk : (k : Int) ≤ n := by omega
  have hk' : k ≤ n := by omega
  have hk1 : wrap64 ((k : Int) + 1) = (k : Int) + 1 := by unfold wrap64; omega
  have hk2 : (k : Int) + 1 ≤ n := by omega
  have hk3 : (0 : Int) ≤ (k : Int) + 1 := by omega
  have hk4 : ((k : Int) + 1).toNat = k + 1 := by omega
  clear HP h1 h2 h3 Hss Htx Hty Hk Hn
  go_enter Tryz.func43, Tryz.ntmps43
  go_wp2_with (fail)
  refine CI.out.mono ?_
  rintro e w' ⟨rfl, rfl⟩
  clear CI
  have HF := J04 (HE.out w'.drew (More.refl _).drew)
  clear HE
  go_wp2
  go_region
  all_goals
   go_wp2
   refine bodyPost_ret (v := .tuple #[.string tx, .string ty, .bool true]) (by simp [results, Tryz.results43, go_sem, *]) rfl ?_
   exact HF.out

set_option maxHeartbeats 1000000 in
theorem Jb5 (l : List UInt8) (hl : l.length < 4611686018427387904) (b : UInt8) (w : World) : Calls Tryz.prog 19 #[.string (txt l), .string ⟨#[b]⟩] w fun e w' => ∃ (d1 d2 : ByteArray) (ok : Bool), e = .returned (.tuple #[.string d1, .string d2, .bool ok]) ∧ J6q l b d1 d2 ok ∧ More w w' := by
 suffices hP : ∀ P : Ending → World → Prop, (∀ (d1 d2 : ByteArray) (ok : Bool) w', J6q l b d1 d2 ok → More w w' → P (.returned (.tuple #[.string d1, .string d2, .bool ok])) w') → Calls Tryz.prog 19 #[.string (txt l), .string ⟨#[b]⟩] w P from hP _ (fun d1 d2 ok w' h m => ⟨d1, d2, ok, rfl, h, m⟩)
 intro P hP0
 have HP : Hid (∀ (d1 d2 : ByteArray) (ok : Bool) w', J6q l b d1 d2 ok → More w w' → P (.returned (.tuple #[.string d1, .string d2, .bool ok])) w') := hP0
 have CI := J04 (Jjd l hl b w)
 clear hP0
 obtain ⟨bs, Hbs⟩ : ∃ x, Hid ((⟨#[b]⟩ : ByteArray) = x) := ⟨_, rfl⟩
 obtain ⟨ss, Hss⟩ : ∃ x, Hid (txt l = x) := ⟨_, rfl⟩
 rw [Hbs.out, Hss.out] at CI ⊢
 go_enter Tryz.func19, Tryz.ntmps19
 go_wp2_with (fail)
 refine CI.out.mono ?_
 rintro e w1 ⟨d1, d2, ok, rfl, h, m⟩
 have HE := J04 (HP.out d1 d2 ok w1 h m)
 clear CI HP h m
 go_wp2
 refine bodyPost_ret (v := .tuple #[.string d1, .string d2, .bool ok]) (by simp [results, Tryz.results19, go_sem, *]) rfl ?_
 exact HE.out
end
end Go.Proofs.YtephohhigbfafaaGreatDoor
