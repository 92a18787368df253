/-
  The texts CvWrong, CvFirst, Regions, Fields, FieldsK, Named, FieldsAll, Code, CvCheck, Shape, InsBox, InsA, one behind the other, with what is used of them.
-/
import Derived.Test.YtmpafeoileonjaaJoined2
import Derived.Test.YtmpafeoileonjaaRows
import Derived.WalkKit
import Derived.Deep.LoopGhost
import Derived.Test.YtmpafeoileonjaaJoined0
import Derived.Deep.RegionHeld3
namespace Go.Proofs.Ytmpafeoileonjaa
section
open Go.RowKit
set_option linter.unusedSimpArgs false
set_option linter.unusedVariables false
set_option maxRecDepth 8000
set_option maxHeartbeats 4000000 in
theorem wrong_all {w0 : World} {p : Prg} {lo : Loc} {M B : Nat} {l : KV} {td : List Nat} {tv : Value} {w : World} (h : Ck w0 p lo M B l td tv w) (hcl : p.cl ≤ 200) (hn : td.length ≤ 99990) (at_ : Nat) (hat : at_ < p.cl) (s : KS) (hl : l at_ = some s) (op a b c n : Int) (hin : p.ins at_ = ⟨op, a, b, c, n⟩) (hok : InsOk p.rl p.log p.cl 8 ⟨op, a, b, c, n⟩) (hro : RegionsOk p.rl p.log) (n0 : -9223372036854775808 ≤ n) (n1 : n ≤ 9223372036854775807) :
  Calls Try.prog 62 #[.pointer (some ⟨M, 0, none⟩), .int .i64 at_] w fun e w' => e = .returned (.int .i64 (faultK p at_ s)) ∧ More w w' := by
 suffices hP : ∀ P : Ending → World → Prop, (∀ w', More w w' → P (.returned (.int .i64 (faultK p at_ s))) w') → Calls Try.prog 62 #[.pointer (some ⟨M, 0, none⟩), .int .i64 at_] w P from hP _ (fun w' m => ⟨rfl, m⟩)
 intro P hP0
 have HP : Hid (∀ w', More w w' → P (.returned (.int .i64 (faultK p at_ s))) w') := hP0
 clear hP0
 have Hck : Hid (Ck w0 p lo M B l td tv w) := h
 have m1 : w.cell? ⟨M, 1, none⟩ = some (.slice lo.ca p.cl lo.cc) := h.box.cell (j := 1) rfl
 have m2 : w.cell? ⟨M, 2, none⟩ = some (.slice (some ⟨B, 0, none⟩) p.cl p.cl) := h.box.cell (j := 2) rfl
 rw [h.pin.hc (by omega)] at m1
 have hcode := h.pinw.code at_ hat
 rw [hin] at hcode
 dsimp only at hcode
 obtain ⟨q0, q1, q2, q3, q4⟩ := hcode
 have Hpl : Hid (∀ w', More w w' → ∀ j v, (kv s)[j]? = some v → w'.cell? ⟨B, at_ * 17 + j, none⟩ = some v) := fun w' m => (h.more m).pl.regs hat hl
 have HN : Hid (td.length ≤ 99990 ∧ p.cl ≤ 200 ∧ at_ < p.cl ∧ p.ins at_ = ⟨op, a, b, c, n⟩) := ⟨hn, hcl, hat, hin⟩
 have hiC := info104k s
 have hone : (kv s).all (·.oneCell') = true := kv_one s
 have hz16 : (kv zeroK).size = (kv s).size := by rw [kv_size, kv_size]
 clear h hn hl hin
 have Hok : Hid (InsOk p.rl p.log p.cl 8 ⟨op, a, b, c, n⟩ ∧ RegionsOk p.rl p.log) := ⟨hok, hro⟩
 clear hok hro
 obtain ⟨C, hC⟩ : ∃ c, kv s = c := ⟨_, rfl⟩
 have HC : Hid (kv s = C) := hC
 rw [hC] at Hpl hiC hone hz16
 clear hC
 obtain ⟨cl, Hcl⟩ : ∃ x, Hid (p.cl = x) := ⟨_, rfl⟩
 rw [Hcl.out] at m1 m2 hat hcl
 have hi1 : ((at_ : Int) < cl) := by omega
 have hi2 : ((cl : Int) ≤ 200) := by omega
 obtain ⟨cb, Hcb⟩ : ∃ x, Hid (lo.cb = x) := ⟨_, rfl⟩
 obtain ⟨co, Hco⟩ : ∃ x, Hid (lo.co = x) := ⟨_, rfl⟩
 obtain ⟨cc, Hcc⟩ : ∃ x, Hid (lo.cc = x) := ⟨_, rfl⟩
 rw [Hcb.out, Hco.out] at m1 q0 q1 q2 q3 q4
 rw [Hcc.out] at m1
 obtain ⟨S, HS⟩ : ∃ S : World → Prop, Hid (∀ w', S w' ↔ More w w') := ⟨_, fun _ => Iff.rfl⟩
 have HS0 : S w.drew := (HS.out _).2 (More.refl _).drew
 have hne : Nonempty { w' // S w' } := ⟨⟨_, HS0⟩⟩
 have k1 : ∀ i : { w' // S w' }, i.val.cell? ⟨M, 1, none⟩ = some (.slice (some ⟨cb, co, none⟩) cl cc) := fun i => ((HS.out _).1 i.property).cell m1
 have k2 : ∀ i : { w' // S w' }, i.val.cell? ⟨M, 2, none⟩ = some (.slice (some ⟨B, 0, none⟩) cl cl) := fun i => ((HS.out _).1 i.property).cell m2
 have j0 : ∀ i : { w' // S w' }, i.val.cell? ⟨cb, co + at_ * 5, none⟩ = some (.int .i64 op) := fun i => ((HS.out _).1 i.property).cell q0
 have j1 : ∀ i : { w' // S w' }, i.val.cell? ⟨cb, co + at_ * 5 + 1, none⟩ = some (.int .i64 a) := fun i => ((HS.out _).1 i.property).cell q1
 have j2 : ∀ i : { w' // S w' }, i.val.cell? ⟨cb, co + at_ * 5 + 2, none⟩ = some (.int .i64 b) := fun i => ((HS.out _).1 i.property).cell q2
 have j3 : ∀ i : { w' // S w' }, i.val.cell? ⟨cb, co + at_ * 5 + 3, none⟩ = some (.int .i64 c) := fun i => ((HS.out _).1 i.property).cell q3
 have j4 : ∀ i : { w' // S w' }, i.val.cell? ⟨cb, co + at_ * 5 + 4, none⟩ = some (.int .i64 n) := fun i => ((HS.out _).1 i.property).cell q4
 clear m1 m2 q0 q1 q2 q3 q4
 go_enter Try.func62, Try.ntmps62
 go_wp2_with (fail)
 refine wp_region_left (S := S) (by kernel_rfl) HS0 ?_
 refine ol_take 0 rfl (by kernel_rfl) HS0 (by kernel_rfl) (fun K hK => ?_); go_simp; refine hK _ _ ?_; clear hK K
 refine ol_take 1 rfl (by kernel_rfl) HS0 (by kernel_rfl) (fun K hK => ?_); go_simp; refine hK _ _ ?_; clear hK K
 refine ol_take 2 rfl (by kernel_rfl) HS0 (by kernel_rfl) (fun K hK => ?_); go_simp; refine hK _ _ ?_; clear hK K
 refine ol_take 3 rfl (by kernel_rfl) HS0 (by kernel_rfl) (fun K hK => ?_); go_simp; refine hK _ _ ?_; clear hK K
 refine ol_take 4 rfl (by kernel_rfl) HS0 (by kernel_rfl) (fun K hK => ?_); go_simp; refine hK _ _ ?_; clear hK K
 refine ol_take 5 rfl (by kernel_rfl) HS0 (by kernel_rfl) (fun K hK => ?_); go_simp; refine hK _ _ ?_; clear hK K
 refine ol_take 6 rfl (by kernel_rfl) HS0 (by kernel_rfl) (fun K hK => ?_); go_simp; refine hK _ _ ?_; clear hK K
 refine ol_take 7 rfl (by kernel_rfl) HS0 (by kernel_rfl) (fun K hK => ?_); go_simp; refine hK _ _ ?_; clear hK K
 refine ol_take 8 rfl (by kernel_rfl) HS0 (by kernel_rfl) (fun K hK => ?_); go_simp; refine hK _ _ ?_; clear hK K
 refine ol_take 9 rfl (by kernel_rfl) HS0 (by kernel_rfl) (fun K hK => ?_); go_simp; refine hK _ _ ?_; clear hK K
 refine ol_take 10 rfl (by kernel_rfl) HS0 (by kernel_rfl) (fun K hK => ?_); go_simp; refine hK _ _ ?_; clear hK K
 refine ol_take 11 rfl (by kernel_rfl) HS0 (by kernel_rfl) (fun K hK => ?_); go_simp; refine hK _ _ ?_; clear hK K
 refine ol_take 12 rfl (by kernel_rfl) HS0 (by kernel_rfl) (fun K hK => ?_); go_simp; refine hK _ _ ?_; clear hK K
 refine ol_take 13 rfl (by kernel_rfl) HS0 (by kernel_rfl) (fun K hK => ?_); go_simp; refine hK _ _ ?_; clear hK K
 refine ol_take 14 rfl (by kernel_rfl) HS0 (by kernel_rfl) (fun K hK => ?_); go_simp; refine hK _ _ ?_; clear hK K
 refine ol_take 15 rfl (by kernel_rfl) HS0 (by kernel_rfl) (fun K hK => ⟨.agg C, fun i => exec_load_part 113 (.tmp 21) rfl B (at_ * 17) rfl C _ (Hpl.out _ ((HS.out _).1 i.property)) Try.underlying113 rfl hiC, ?_⟩); go_simp; refine hK _ _ ?_; clear hK K
 obtain ⟨wd, Hwd⟩ : ∃ wd : World, Hid (wd = w.drew) := ⟨_, rfl⟩
 have Hmwd : Hid (More w wd) := Hwd.out ▸ (More.refl w).drew
 rw [← Hwd.out]
 clear k1 k2 j0 j1 j2 j3 j4
 apply by_key
 ·intro key
  refine ol_two 16 17 (by kernel_rfl) ?_ ?_
  ·refine ol_step rfl (by kernel_rfl) (fun K hK => ?_); go_simp
   obtain ⟨w1, Hw1⟩ : ∃ w_ : World, Hid (w_ = wd.alloc (.cells #[.int .i64 0, .int .i64 0, .int .i64 0, .int .i64 0, .int .i64 0] 59)) := ⟨_, rfl⟩
   have m1 : More wd w1 := Hw1.out ▸ (More.refl _).alloc _ _
   have Hm1 : Hid (More w w1) := Hmwd.out.trans m1
   have Hb1 : Hid (Blk w1 wd.heap.size #[.int .i64 0, .int .i64 0, .int .i64 0, .int .i64 0, .int .i64 0] 59) := Hw1.out ▸ Blk.last _ _ _
   rw [← Hw1.out]
   clear m1 Hw1
   refine hK _ _ ((HS.out _).2 Hm1.out) ?_; clear hK K
   refine ol_one 17 (by kernel_rfl) ?_
   refine ol_step rfl (by kernel_rfl) (fun K hK => ?_); go_simp
   obtain ⟨w2, Hw2⟩ : ∃ w_ : World, Hid (w_ = w1.alloc (.cells #[.int .i64 0, .bool false, .int .i64 0, .bool false, .int .i64 0, .bool false, .int .i64 0, .bool false, .int .i64 0, .bool false, .int .i64 0, .bool false, .int .i64 0, .bool false, .int .i64 0, .bool false] 113)) := ⟨_, rfl⟩
   have m2 : More w1 w2 := Hw2.out ▸ (More.refl _).alloc _ _
   have Hm2 : Hid (More w w2) := Hm1.out.trans m2
   have Hb2 : Hid (Blk w2 w1.heap.size #[.int .i64 0, .bool false, .int .i64 0, .bool false, .int .i64 0, .bool false, .int .i64 0, .bool false, .int .i64 0, .bool false, .int .i64 0, .bool false, .int .i64 0, .bool false, .int .i64 0, .bool false] 113) := Hw2.out ▸ Blk.last _ _ _
   have Hb1' : Hid (Blk w2 wd.heap.size #[.int .i64 0, .int .i64 0, .int .i64 0, .int .i64 0, .int .i64 0] 59) := Hb1.out.more m2
   rw [← Hw2.out]
   clear m2 Hw2
   refine hK _ _ ((HS.out _).2 Hm2.out) ?_; clear hK K
   have F : Hid (LdB w (wd.heap.size) (w1.heap.size) w2) := ⟨Hb1'.out, Hb2.out, Hm2.out, Hmwd.out.size, Hm1.out.size, Nat.ne_of_lt Hb1.out.lt⟩
   refine ol_cast (listed' := #[true, true, true, true, true, true, true, true, true, true, true, true, true, true, true, true, true, true, false, false]) (by kernel_rfl) ?_
   clear Hb1 Hb2 Hb1' Hm2 Hm1
   generalize w1.heap.size = g5 at F ⊢
   generalize wd.heap.size = g4 at F ⊢
   clear w1
   revert w2 g5 g4
   exact key
  ·refine ol_step rfl (by kernel_rfl) (fun K hK => ?_); go_simp
   obtain ⟨w1, Hw1⟩ : ∃ w_ : World, Hid (w_ = wd.alloc (.cells #[.int .i64 0, .bool false, .int .i64 0, .bool false, .int .i64 0, .bool false, .int .i64 0, .bool false, .int .i64 0, .bool false, .int .i64 0, .bool false, .int .i64 0, .bool false, .int .i64 0, .bool false] 113)) := ⟨_, rfl⟩
   have m1 : More wd w1 := Hw1.out ▸ (More.refl _).alloc _ _
   have Hm1 : Hid (More w w1) := Hmwd.out.trans m1
   have Hb1 : Hid (Blk w1 wd.heap.size #[.int .i64 0, .bool false, .int .i64 0, .bool false, .int .i64 0, .bool false, .int .i64 0, .bool false, .int .i64 0, .bool false, .int .i64 0, .bool false, .int .i64 0, .bool false, .int .i64 0, .bool false] 113) := Hw1.out ▸ Blk.last _ _ _
   rw [← Hw1.out]
   clear m1 Hw1
   refine hK _ _ ((HS.out _).2 Hm1.out) ?_; clear hK K
   refine ol_one 16 (by kernel_rfl) ?_
   refine ol_step rfl (by kernel_rfl) (fun K hK => ?_); go_simp
   obtain ⟨w2, Hw2⟩ : ∃ w_ : World, Hid (w_ = w1.alloc (.cells #[.int .i64 0, .int .i64 0, .int .i64 0, .int .i64 0, .int .i64 0] 59)) := ⟨_, rfl⟩
   have m2 : More w1 w2 := Hw2.out ▸ (More.refl _).alloc _ _
   have Hm2 : Hid (More w w2) := Hm1.out.trans m2
   have Hb2 : Hid (Blk w2 w1.heap.size #[.int .i64 0, .int .i64 0, .int .i64 0, .int .i64 0, .int .i64 0] 59) := Hw2.out ▸ Blk.last _ _ _
   have Hb1' : Hid (Blk w2 wd.heap.size #[.int .i64 0, .bool false, .int .i64 0, .bool false, .int .i64 0, .bool false, .int .i64 0, .bool false, .int .i64 0, .bool false, .int .i64 0, .bool false, .int .i64 0, .bool false, .int .i64 0, .bool false] 113) := Hb1.out.more m2
   rw [← Hw2.out]
   clear m2 Hw2
   refine hK _ _ ((HS.out _).2 Hm2.out) ?_; clear hK K
   have F : Hid (LdB w (w1.heap.size) (wd.heap.size) w2) := ⟨Hb2.out, Hb1'.out, Hm2.out, Hm1.out.size, Hmwd.out.size, Nat.ne_of_gt Hb1.out.lt⟩
   refine ol_cast (listed' := #[true, true, true, true, true, true, true, true, true, true, true, true, true, true, true, true, true, true, false, false]) (by kernel_rfl) ?_
   exact key _ _ _ F
 ·intro w1 g5 g4 F
  obtain ⟨w2, Hw2⟩ : ∃ w_ : World, Hid (w_ = w1.setRow g4 #[.int .i64 op, .int .i64 a, .int .i64 b, .int .i64 c, .int .i64 n]) := ⟨_, rfl⟩
  obtain ⟨w3, Hw3⟩ : ∃ w_ : World, Hid (w_ = w2.setRow g5 C) := ⟨_, rfl⟩
  have F2 : Hid (Blk w2 g4 #[.int .i64 op, .int .i64 a, .int .i64 b, .int .i64 c, .int .i64 n] 59 ∧ Blk w2 g5 (kv zeroK) 113 ∧ More w w2) := by
   rw [Hw2.out]
   exact ⟨F.out.b4.setRow _, F.out.b5.setRow_other F.out.ne.symm _, F.out.up.setRow F.out.lt4 _⟩
  have F3 : Hid (LdF g4 g5 ⟨op, a, b, c, n⟩ s w3 ∧ More w w3) := by
   rw [Hw3.out]
   refine ⟨⟨F2.out.1.setRow_other F.out.ne _, ?_⟩, F2.out.2.2.setRow F.out.lt5 _⟩
   rw [HC.out]
   exact F2.out.2.1.setRow _
  refine ol_one 18 (by kernel_rfl) ?_
  refine ol_step rfl (by kernel_rfl) (fun K hK => ?_)
  refine wp_store_row 59 (.tmp 5) (.tmp 14) rfl g4 #[.int .i64 op, .int .i64 a, .int .i64 b, .int .i64 c, .int .i64 n] rfl rfl 59 #[.int .i64 0, .int .i64 0, .int .i64 0, .int .i64 0, .int .i64 0] F.out.b4 info67 rfl (by simp [Value.oneCell']) ?_
  rw [← Hw2.out]
  refine hK _ _ ((HS.out _).2 F2.out.2.2) ?_; clear hK K
  refine ol_one 19 (by kernel_rfl) ?_
  refine ol_step rfl (by kernel_rfl) (fun K hK => ?_)
  refine wp_store_row 113 (.tmp 6) (.tmp 22) rfl g5 C rfl rfl 113 _ F2.out.2.1 hiC hz16 hone ?_
  rw [← Hw3.out]
  refine hK _ _ ((HS.out _).2 F3.out.2) ?_; clear hK K
  refine ol_done (by kernel_rfl) ?_
  clear hne HS0
  have i0 : w3.cell? ⟨g4, 0, none⟩ = some (.int .i64 op) := F3.out.1.b4.cell rfl
  have i1 : w3.cell? ⟨g4, 1, none⟩ = some (.int .i64 a) := F3.out.1.b4.cell rfl
  have i2 : w3.cell? ⟨g4, 2, none⟩ = some (.int .i64 b) := F3.out.1.b4.cell rfl
  have i3 : w3.cell? ⟨g4, 3, none⟩ = some (.int .i64 c) := F3.out.1.b4.cell rfl
  have i4 : w3.cell? ⟨g4, 4, none⟩ = some (.int .i64 n) := F3.out.1.b4.cell rfl
  have Hck3 : Hid (Ck w0 p lo M B l td tv w3) := Hck.out.more F3.out.2
  have hb5 : w3.heap[g5]? = some (.cells C 113 (0, 0)) := by
   have := F3.out.1.b5
   rw [HC.out] at this
   exact this
  obtain ⟨o, ho⟩ : ∃ x, outK p at_ = x := ⟨_, rfl⟩
  obtain ⟨bd, hbd⟩ : ∃ x, boundK p ⟨op, a, b, c, n⟩ s = x := ⟨_, rfl⟩
  obtain ⟨sc, hsc⟩ : ∃ x, secretK p ⟨op, a, b, c, n⟩ s = x := ⟨_, rfl⟩
  have hF : faultK p at_ s = if o || bd then 4 else if sc then 5 else 0 := by unfold faultK; rw [HN.out.2.2.2, ho, hbd, hsc]
  rw [hF] at HP
  have c1 : Calls Try.prog 79 #[.pointer (some ⟨M, 0, none⟩), .int .i64 (at_ : Int)] w3 fun e w' => e = .returned (.bool o) ∧ w' = w3 := by
   have m1 : w3.cell? ⟨M, 1, none⟩ = some (.slice lo.ca p.cl lo.cc) := Hck3.out.box.cell (j := 1) rfl
   rw [Hck3.out.pin.hc (by have := HN.out.2.2.1; omega)] at m1
   have := leavesCode_of M lo.cb lo.co p.cl lo.cc at_ (p.ins at_).op w3 m1 (Hck3.out.pinw.code at_ HN.out.2.2.1).1 HN.out.2.2.1 HN.out.2.1
   rw [← ho]
   exact this
  have c2 : Calls Try.prog 80 #[.pointer (some ⟨M, 0, none⟩), .agg #[.int .i64 op, .int .i64 a, .int .i64 b, .int .i64 c, .int .i64 n], .agg C] w3 fun e w' => e = .returned (.bool bd) ∧ More w3 w' := by
   have := leavesRegion_calls p s M lo ⟨op, a, b, c, n⟩ w3 (Hck3.out.box.cell (j := 0) rfl) Hck3.out.pinw Hok.out.1 Hok.out.2 n0
   rw [hbd, HC.out] at this
   exact this
  have c3 : ∀ w4, More w3 w4 → Calls Try.prog 81 #[.pointer (some ⟨M, 0, none⟩), .agg #[.int .i64 op, .int .i64 a, .int .i64 b, .int .i64 c, .int .i64 n], .agg C] w4 fun e w' => e = .returned (.bool sc) ∧ More w4 w' := by
   intro w4 m4
   have := tells_calls p s M lo ⟨op, a, b, c, n⟩ w4 ((Hck3.out.more m4).box.cell (j := 0) rfl) (Hck3.out.more m4).pinw Hok.out.1
   rw [hsc, HC.out] at this
   exact this
  have C3 : Hid (∀ w4, More w3 w4 → Calls Try.prog 81 #[.pointer (some ⟨M, 0, none⟩), .agg #[.int .i64 op, .int .i64 a, .int .i64 b, .int .i64 c, .int .i64 n], .agg C] w4 fun e w' => e = .returned (.bool sc) ∧ More w4 w') := c3
  clear ho hbd hsc hF c3
  have z4 := F3.out.1.b4.lt
  have z5 := F3.out.1.b5.lt
  go_wp2_with (first | (refine wpList_load_row rfl 113 (.tmp 6) rfl g5 rfl 113 C (0, 0) _ hb5 Try.underlying113 rfl hiC ?_))
  refine c1.mono ?_
  rintro e w_ ⟨rfl, rfl⟩
  clear c1
  cases o with
  | true =>
   have Hend : Hid (P (.returned (.int .i64 4)) w_) := HP.out _ F3.out.2
   clear HP C3 c2
   go_wp2
   exact Hend.out
  | false =>
   go_wp2_with (first | (refine wpList_load_row rfl 113 (.tmp 6) rfl g5 rfl 113 C (0, 0) _ hb5 Try.underlying113 rfl hiC ?_))
   refine c2.mono ?_
   rintro e w4 ⟨rfl, m4⟩
   have Hm4 : Hid (More w_ w4) := m4
   have HF4 : Hid (LdF g4 g5 ⟨op, a, b, c, n⟩ s w4) := F3.out.1.more m4
   clear c2 m4
   cases bd with
   | true =>
    have Hend : Hid (P (.returned (.int .i64 4)) w4) := HP.out _ (F3.out.2.trans Hm4.out)
    clear HP C3
    go_wp2
    exact Hend.out
   | false =>
    have c3 := C3.out w4 Hm4.out
    clear i0 i1 i2 i3 i4 hb5 z4 z5
    have i0 : w4.cell? ⟨g4, 0, none⟩ = some (.int .i64 op) := HF4.out.b4.cell rfl
    have i1 : w4.cell? ⟨g4, 1, none⟩ = some (.int .i64 a) := HF4.out.b4.cell rfl
    have i2 : w4.cell? ⟨g4, 2, none⟩ = some (.int .i64 b) := HF4.out.b4.cell rfl
    have i3 : w4.cell? ⟨g4, 3, none⟩ = some (.int .i64 c) := HF4.out.b4.cell rfl
    have i4 : w4.cell? ⟨g4, 4, none⟩ = some (.int .i64 n) := HF4.out.b4.cell rfl
    have hb5 : w4.heap[g5]? = some (.cells C 113 (0, 0)) := by
     have := HF4.out.b5
     rw [HC.out] at this
     exact this
    go_wp2_with (first | (refine wpList_load_row rfl 113 (.tmp 6) rfl g5 rfl 113 C (0, 0) _ hb5 Try.underlying113 rfl hiC ?_))
    refine c3.mono ?_
    rintro e w5 ⟨rfl, m5⟩
    have Hm5 : Hid (More w w5) := (F3.out.2.trans Hm4.out).trans m5
    clear c3 m5
    cases sc with
    | true =>
     have Hend : Hid (P (.returned (.int .i64 5)) w5) := HP.out _ Hm5.out
     clear HP C3
     go_wp2
     exact Hend.out
    | false =>
     have Hend : Hid (P (.returned (.int .i64 0)) w5) := HP.out _ Hm5.out
     clear HP C3
     go_wp2
     exact Hend.out

theorem wrong_calls {w0 : World} {p : Prg} {lo : Loc} {M B : Nat} {l : KV} {td : List Nat} {tv : Value} {w : World} (h : Ck w0 p lo M B l td tv w) (hp : p.Ok 200 8) (hnr : ∀ i, i < p.cl → -9223372036854775808 ≤ (p.ins i).n ∧ (p.ins i).n ≤ 9223372036854775807) (hn : td.length ≤ 99990) (at_ : Nat) (hat : at_ < p.cl) (s : KS) (hl : l at_ = some s) :
  Calls Try.prog 62 #[.pointer (some ⟨M, 0, none⟩), .int .i64 at_] w fun e w' => e = .returned (.int .i64 (faultK p at_ s)) ∧ More w w' := by
 have hr := hnr at_ hat
 have hi := hp.2.2.2 at_ hat
 obtain ⟨i, hin⟩ : ∃ i, p.ins at_ = i := ⟨_, rfl⟩
 obtain ⟨op, a, b, c, n⟩ := i
 rw [hin] at hr hi
 exact wrong_all h hp.2.2.1 hn at_ hat s hl op a b c n hin hi hp.1 hr.1 hr.2
theorem pv_none : pv none = #[.int .i64 0, .bool false, .int .i64 0, .bool false, .int .i64 0, .bool false, .int .i64 0, .bool false, .int .i64 0, .bool false, .int .i64 0, .bool false, .int .i64 0, .bool false, .int .i64 0, .bool false, .bool false] := rfl
theorem info107p (o : Option KS) : (Try.prog.info? 116).map (·.size) = some (pv o).size := by rw [pv_size]; exact info107
/-- Where firstFault stands. -/
structure FF (w : World) (wr : World) : Prop where
 r : Blk wr w.heap.size #[.int .i64 0, .int .i64 0] 28
 m : More w wr

theorem wpList_store_rowAs {P : Program} {ops : Array Oper} {rest : List Oper} {o : Oper} {a : Act} {w : World} {Q : Exit → Act → World → Prop} (hgd : o.guard = none) (ty : TypeId) (x y : Operand) (ho : o.op = .store ty x y)
  (g : Nat) (cells : Array Value) (hx : a.eval x = .pointer (some ⟨g, 0, none⟩)) (hy : a.eval y = .agg cells)
  (t : TypeId) (old : Array Value) (hg : w.heap[g]? = some (.cells old t (0, 0))) (hi : (P.info? ty).map (·.size) = some cells.size)
  (hold : old.size = cells.size) (h1 : cells.all (·.oneCell') = true)
  (w' : World) (hw : w' = w.setRow g cells) (h : wpList P ops Q rest (a.put o.dst undef) w') : wpList P ops Q (o :: rest) a w := by
 subst hw
 exact wpList_store_row hgd ty x y ho g cells hx hy t old hg hi hold h1 h

set_option maxHeartbeats 2000000 in
theorem first_calls {w0 : World} {p : Prg} {lo : Loc} {M B : Nat} {l : KV} {td : List Nat} {tv : Value} {w : World} (h : Ck w0 p lo M B l td tv w) (hp : p.Ok 200 8) (hnr : ∀ i, i < p.cl → -9223372036854775808 ≤ (p.ins i).n ∧ (p.ins i).n ≤ 9223372036854775807) (hn : td.length ≤ 99990) :
  Calls Try.prog 43 #[.pointer (some ⟨M, 0, none⟩)] w fun e w' => e = .returned (.agg #[.int .i64 (checkK p l).1, .int .i64 (checkK p l).2]) ∧ More w w' := by
 suffices hP : ∀ P : Ending → World → Prop, (∀ w', More w w' → P (.returned (.agg #[.int .i64 (checkK p l).1, .int .i64 (checkK p l).2])) w') → Calls Try.prog 43 #[.pointer (some ⟨M, 0, none⟩)] w P from hP _ (fun w' m => ⟨rfl, m⟩)
 intro P hP0
 have HP : Hid (∀ w', More w w' → P (.returned (.agg #[.int .i64 (checkK p l).1, .int .i64 (checkK p l).2])) w') := hP0
 clear hP0
 have Hck : Hid (Ck w0 p lo M B l td tv w) := h
 have Hp : Hid (p.Ok 200 8 ∧ (∀ i, i < p.cl → -9223372036854775808 ≤ (p.ins i).n ∧ (p.ins i).n ≤ 9223372036854775807) ∧ td.length ≤ 99990) := ⟨hp, hnr, hn⟩
 have m2 : w.cell? ⟨M, 2, none⟩ = some (.slice (some ⟨B, 0, none⟩) p.cl p.cl) := h.box.cell (j := 2) rfl
 have hM := h.box.lt
 have hcl := hp.2.2.1
 obtain ⟨cl, Hcl⟩ : ∃ x, Hid (p.cl = x) := ⟨_, rfl⟩
 rw [Hcl.out] at m2 hcl
 have hi2 : ((cl : Int) ≤ 200) := by omega
 clear h hp hnr hn
 go_enter Try.func43, Try.ntmps43
 go_wp2_with (fail)
 go_loopg [11] cl (fun g iv wr => ∃ k : Nat, k + g = cl ∧ iv = .int .i64 k ∧ Hid (FF w wr ∧ checkK p l = scanK p l g k))
 case atStart => exact ⟨0, by omega, rfl, ⟨Blk.last _ _ _, (More.refl _).alloc _ _⟩, by unfold checkK; rw [Hcl.out]⟩
 case round =>
  obtain ⟨k, hkg, rfl, Hr⟩ := hrel
  cases gk with
  | zero =>
   obtain rfl : k = cl := by omega
   have hs := Hr.out.2
   rw [scanK] at hs
   have t0 : wr.cell? ⟨w.heap.size, 0, none⟩ = some (.int .i64 0) := Hr.out.1.r.cell (j := 0) rfl
   have t1 : wr.cell? ⟨w.heap.size, 1, none⟩ = some (.int .i64 0) := Hr.out.1.r.cell (j := 1) rfl
   have u0 := Hr.out.1.r.frozen 0
   have u1 := Hr.out.1.r.frozen 1
   rw [hs] at HP
   clear hs
   go_wp2
   refine bodyPost_ret (v := .agg #[.int .i64 0, .int .i64 0]) (by simp [results, Try.results43, go_sem, *]) rfl (HP.out _ ?_)
   exact (Hr.out.1.m.setCell (by simp) _).setCell (by simp) _
  | succ g =>
   have hk : k < cl := by omega
   have hki : (k : Int) < cl := by omega
   have hk63 : wrap64 ((k : Int) + 1) = (k : Int) + 1 := by unfold wrap64; omega
   have Hk : Hid (k < p.cl) := by show _ < _; rw [Hcl.out]; exact hk
   have Hckr : Hid (Ck w0 p lo M B l td tv wr) := Hck.out.more Hr.out.1.m
   have hpc := Hckr.out.pl.cells Hk.out
   have hip := info107p (l k)
   have hone := pv_one (l k)
   have hold : (#[.int .i64 0, .bool false, .int .i64 0, .bool false, .int .i64 0, .bool false, .int .i64 0, .bool false, .int .i64 0, .bool false, .int .i64 0, .bool false, .int .i64 0, .bool false, .int .i64 0, .bool false, .bool false] : Array Value).size = (pv (l k)).size := by rw [pv_size]; rfl
   have hlast := pv_last (l k)
   obtain ⟨D, hD⟩ : ∃ x, pv (l k) = x := ⟨_, rfl⟩
   rw [hD] at hpc hip hone hold hlast
   obtain ⟨w1, Hw1⟩ : ∃ w_ : World, Hid (w_ = wr.alloc (.cells #[.int .i64 0, .bool false, .int .i64 0, .bool false, .int .i64 0, .bool false, .int .i64 0, .bool false, .int .i64 0, .bool false, .int .i64 0, .bool false, .int .i64 0, .bool false, .int .i64 0, .bool false, .bool false] 116)) := ⟨_, rfl⟩
   have Hb1 : Hid (Blk w1 wr.heap.size #[.int .i64 0, .bool false, .int .i64 0, .bool false, .int .i64 0, .bool false, .int .i64 0, .bool false, .int .i64 0, .bool false, .int .i64 0, .bool false, .int .i64 0, .bool false, .int .i64 0, .bool false, .bool false] 116 ∧ More wr w1) := by rw [Hw1.out]; exact ⟨Blk.last _ _ _, (More.refl _).alloc _ _⟩
   obtain ⟨w2, Hw2⟩ : ∃ w_ : World, Hid (w_ = w1.setRow wr.heap.size D) := ⟨_, rfl⟩
   have Hb2 : Hid (Blk w2 wr.heap.size D 116 ∧ More wr w2) := by
    rw [Hw2.out]
    exact ⟨Hb1.out.1.setRow D, Hb1.out.2.setRow (Nat.le_refl _) D⟩
   have x16 := Hb2.out.1.cell hlast
   have hg1 := Hb1.out.1
   unfold Blk at hg1
   clear hD hlast
   cases hl : l k with
   | none =>
    have hs := Hr.out.2
    rw [scanK, hl] at hs
    dsimp only at hs
    rw [hl] at x16
    dsimp only [Option.isSome] at x16
    have HF2 : Hid (FF w w2 ∧ checkK p l = scanK p l g (k + 1)) := ⟨⟨Hr.out.1.r.more Hb2.out.2, Hr.out.1.m.trans Hb2.out.2⟩, hs⟩
    clear hs hl
    go_wp2_with (first
     | (refine wpList_load_part rfl 116 (.tmp 14) rfl B (k * 17) rfl D _ hpc Try.underlying116 rfl hip ?_)
     | (rw [← Hw1.out]; refine wpList_store_rowAs rfl 116 (.tmp 4) (.tmp 15) rfl wr.heap.size D rfl rfl 116 _ hg1 hip hold hone w2 Hw2.out ?_))
    go_roundg g
    case measure => omega
    case rel => exact ⟨k + 1, by omega, by first | rfl | simp, HF2.out⟩
   | some s =>
    have hs := Hr.out.2
    rw [scanK, hl] at hs
    dsimp only at hs
    rw [hl] at x16
    dsimp only [Option.isSome] at x16
    obtain ⟨f, hf⟩ : ∃ x, faultK p k s = x := ⟨_, rfl⟩
    rw [hf] at hs
    have c1 : Calls Try.prog 62 #[.pointer (some ⟨M, 0, none⟩), .int .i64 (k : Int)] w2 fun e w' => e = .returned (.int .i64 f) ∧ More w2 w' := by
     have := wrong_calls (Hckr.out.more Hb2.out.2) Hp.out.1 Hp.out.2.1 Hp.out.2.2 k Hk.out s hl
     rw [hf] at this
     exact this
    have HF2 : Hid (FF w w2) := ⟨Hr.out.1.r.more Hb2.out.2, Hr.out.1.m.trans Hb2.out.2⟩
    have Hs : Hid (checkK p l = if f = 0 then scanK p l g (k + 1) else (f, (k : Int))) := hs
    clear hs hl hf
    go_wp2_with (first
     | (refine wpList_load_part rfl 116 (.tmp 14) rfl B (k * 17) rfl D _ hpc Try.underlying116 rfl hip ?_)
     | (rw [← Hw1.out]; refine wpList_store_rowAs rfl 116 (.tmp 4) (.tmp 15) rfl wr.heap.size D rfl rfl 116 _ hg1 hip hold hone w2 Hw2.out ?_))
    refine c1.mono ?_
    rintro e w3 ⟨rfl, m3⟩
    have HF3 : Hid (FF w w3) := ⟨HF2.out.r.more m3, HF2.out.m.trans m3⟩
    clear c1 m3 hpc hip hone hold x16 hg1
    by_cases h0 : f = 0
    ·subst h0
     have Hs' : Hid (checkK p l = scanK p l g (k + 1)) := Hs.out
     clear Hs
     go_wp2
     go_roundg g
     case measure => omega
     case rel => exact ⟨k + 1, by omega, by first | rfl | simp, HF3.out, Hs'.out⟩
    ·have hs := Hs.out
     rw [if_neg h0] at hs
     rw [hs] at HP
     have e0 : (f == 0) = false := by simp [h0]
     have e1 : (f != 0) = true := by simp [h0]
     have t0 : w3.cell? ⟨w.heap.size, 0, none⟩ = some (.int .i64 0) := HF3.out.r.cell (j := 0) rfl
     have t1 : w3.cell? ⟨w.heap.size, 1, none⟩ = some (.int .i64 0) := HF3.out.r.cell (j := 1) rfl
     have u0 := HF3.out.r.frozen 0
     have u1 := HF3.out.r.frozen 1
     clear hs Hs h0
     go_wp2
     refine bodyPost_ret (v := .agg #[.int .i64 f, .int .i64 (k : Int)]) (by simp [results, Try.results43, go_sem, *]) rfl (HP.out _ ?_)
     exact (HF3.out.m.setCell (by simp) _).setCell (by simp) _
end
section
open Go.RowKit
set_option maxHeartbeats 400000 in
theorem regions_calls (ra : Option Addr) (rl rc : Nat) (ca : Option Addr) (cl cc : Nat) (code regs : Int) (b o : Nat) (log : Nat → Int) (sec : Nat → Bool) (w : World)
  (hra : 0 < rl → ra = some ⟨b, o, none⟩) (hr : RegsAt w b o rl log sec) :
  Calls Try.prog 73 #[.agg #[.slice ra rl rc, .slice ca cl cc, .int .i64 code, .int .i64 regs]] w (Says (RegionsOk rl log) w) := by
 by_cases h6 : 6 < rl
 ·have Hr : Hid (RegsAt w b o rl log sec) := hr
  clear hr
  have h6' : (6 : Int) < (rl : Int) := by omega
  go_enter Try.func73, Try.ntmps73
  go_wp2
  go_ret
  exact Says.no (fun h => by have := h.1; omega) ((More.refl _).alloc _ _)
 ·have h6' : ¬ (6 : Int) < (rl : Int) := by omega
  have Hr : Hid (RegsAt w b o rl log sec) := hr
  have Ha : Hid (0 < rl → ra = some ⟨b, o, none⟩) := hra
  clear hr hra
  go_enter Try.func73, Try.ntmps73
  go_wp2
  go_loopg [14] rl (fun g i wr => ∃ k : Nat, k + g = rl ∧ i = .int .i64 k ∧ (∀ j, j < k → 0 ≤ log j ∧ log j ≤ 6) ∧ More w wr)
  case atStart => exact ⟨0, by omega, rfl, fun j hj => by omega, (More.refl _).alloc _ _⟩
  case round =>
   obtain ⟨k, hkg, rfl, hok, m⟩ := hrel
   have Hm : Hid (More w wr ∧ ∀ j, j < k → 0 ≤ log j ∧ log j ≤ 6) := ⟨m, hok⟩
   clear m hok
   cases gk with
   | zero =>
    obtain rfl : k = rl := by omega
    go_wp2
    go_ret
    exact Says.yes ⟨by omega, Hm.out.2⟩ Hm.out.1
   | succ g =>
    have hk : k < rl := by omega
    have hk' : (k : Int) < (rl : Int) := by omega
    obtain rfl := Ha.out (by omega)
    have hc0 := ((Hr.out.more Hm.out.1) k hk).1
    have hc1 := ((Hr.out.more Hm.out.1) k hk).2
    by_cases hlo : log k < 0
    ·go_wp2
     go_ret
     exact Says.no (fun h => by have := (h.2 k hk).1; omega) (by repeat (first | exact Hm.out.1 | apply More.alloc))
    ·by_cases hhi : 6 < log k
     ·go_wp2
      go_ret
      exact Says.no (fun h => by have := (h.2 k hk).2; omega) (by repeat (first | exact Hm.out.1 | apply More.alloc))
     ·go_wp2
      go_roundg g
      case measure => omega
      case rel =>
       refine ⟨k + 1, by omega, by first | rfl | simp, fun j hj => ?_, by repeat (first | exact Hm.out.1 | apply More.alloc)⟩
       by_cases e : j = k
       ·subst e; omega
       ·exact Hm.out.2 j (by omega)

set_option maxHeartbeats 400000 in
theorem registers_calls (ra : Option Addr) (rl rc : Nat) (ca : Option Addr) (cl cc : Nat) (code regs : Int) (g n c : Nat) (hn : n ≤ 3) (x : Nat → Int) (w : World)
  (hx : ∀ i, i < n → w.cell? ⟨g, i, none⟩ = some (.int .i64 (x i))) :
  Calls Try.prog 92 #[.agg #[.slice ra rl rc, .slice ca cl cc, .int .i64 code, .int .i64 regs], .slice (some ⟨g, 0, none⟩) n c] w (Says (∀ i, i < n → Reg regs (x i)) w) := by
 have Hx : Hid (∀ i, i < n → w.cell? ⟨g, i, none⟩ = some (.int .i64 (x i))) := hx
 clear hx
 go_enter Try.func92, Try.ntmps92
 go_wp2
 go_loopg [9] n (fun q i wr => ∃ k : Nat, k + q = n ∧ i = .int .i64 k ∧ (∀ j, j < k → Reg regs (x j)) ∧ wr = w.alloc (.cells #[.slice ra rl rc, .slice ca cl cc, .int .i64 code, .int .i64 regs] 108))
 case atStart => exact ⟨0, by omega, rfl, fun j hj => by omega, rfl⟩
 case round =>
  obtain ⟨k, hkg, rfl, hok, rfl⟩ := hrel
  have Hok : Hid (∀ j, j < k → Reg regs (x j)) := hok
  clear hok
  cases gk with
  | zero =>
   obtain rfl : k = n := by omega
   go_wp2
   go_ret
   exact Says.yes Hok.out ((More.refl _).alloc _ _)
  | succ q =>
   have hk : k < n := by omega
   have hk' : (k : Int) < (n : Int) := by omega
   have hc0 := Hx.out k hk
   have hc := ((More.refl w).alloc #[.slice ra rl rc, .slice ca cl cc, .int .i64 code, .int .i64 regs] 108).cell hc0
   clear hc0
   by_cases hlo : x k < 0
   ·go_wp2
    go_ret
    exact Says.no (fun h => by have := (h k hk).1; omega) ((More.refl _).alloc _ _)
   ·by_cases hhi : regs ≤ x k
    ·go_wp2
     go_ret
     exact Says.no (fun h => by have := (h k hk).2; omega) ((More.refl _).alloc _ _)
    ·go_wp2
     go_roundg q
     case measure => omega
     case rel =>
      refine ⟨k + 1, by omega, by first | rfl | simp, fun j hj => ?_, rfl⟩
      by_cases e : j = k
      ·subst e; exact ⟨by omega, by omega⟩
      ·exact Hok.out j (by omega)

theorem region_calls (ra : Option Addr) (rl rc : Nat) (ca : Option Addr) (cl cc : Nat) (code regs : Int) (c : Int) (w : World) :
  Calls Try.prog 93 #[.agg #[.slice ra rl rc, .slice ca cl cc, .int .i64 code, .int .i64 regs], .int .i64 c] w (Says (Rgn rl c) w) := by
 by_cases h0 : 0 ≤ c
 ·by_cases h1 : c < (rl : Int)
  ·go_enter Try.func93, Try.ntmps93
   go_wp2
   go_ret
   exact Says.yes ⟨h0, h1⟩ ((More.refl _).alloc _ _)
  ·go_enter Try.func93, Try.ntmps93
   go_wp2
   go_ret
   exact Says.no (fun h => by have := h.2; omega) ((More.refl _).alloc _ _)
 ·go_enter Try.func93, Try.ntmps93
  go_wp2
  go_ret
  exact Says.no (fun h => by have := h.1; omega) ((More.refl _).alloc _ _)

theorem lay_below_calls (n e : Int) (w : World) : Calls Try.prog 94 #[.int .i64 n, .int .i64 e] w (Says (Blw n e) w) := by
 by_cases h0 : 0 ≤ n
 ·by_cases h1 : n < e
  ·go_enter Try.func94, Try.ntmps94
   go_wp2
   go_ret
   exact Says.yes ⟨h0, h1⟩ (More.refl _)
  ·go_enter Try.func94, Try.ntmps94
   go_wp2
   go_ret
   exact Says.no (fun h => by have := h.2; omega) (More.refl _)
 ·go_enter Try.func94, Try.ntmps94
  go_wp2
  go_ret
  exact Says.no (fun h => by have := h.1; omega) (More.refl _)

theorem place_calls (ra : Option Addr) (rl rc : Nat) (ca : Option Addr) (cl cc : Nat) (code regs : Int) (n : Int) (w : World) :
  Calls Try.prog 96 #[.agg #[.slice ra rl rc, .slice ca cl cc, .int .i64 code, .int .i64 regs], .int .i64 n] w (Says (Plc cl n) w) := by
 go_enter Try.func96, Try.ntmps96
 go_wp2_with (fail)
 refine (lay_below_calls _ _ _).mono ?_
 rintro e w1 ⟨r, rfl, hr, m⟩
 have Hr : Hid ((r = true ↔ Plc cl n) ∧ More w w1) := ⟨hr, ((More.refl _).alloc _ _).trans m⟩
 clear hr m
 go_wp2
 go_ret
 exact ⟨r, rfl, Hr.out.1, Hr.out.2⟩

theorem condition_calls (c : Int) (w : World) : Calls Try.prog 97 #[.int .i64 c] w (Says (Btw 1 4 c) w) := by
 by_cases h0 : 1 ≤ c
 ·by_cases h1 : c ≤ 4
  ·go_enter Try.func97, Try.ntmps97
   go_wp2
   go_ret
   exact Says.yes ⟨h0, h1⟩ (More.refl _)
  ·go_enter Try.func97, Try.ntmps97
   go_wp2
   go_ret
   exact Says.no (fun h => by have := h.2; omega) (More.refl _)
 ·go_enter Try.func97, Try.ntmps97
  go_wp2
  go_ret
  exact Says.no (fun h => by have := h.1; omega) (More.refl _)

theorem operation_calls (c : Int) (w : World) : Calls Try.prog 98 #[.int .i64 c] w (Says (Btw 21 30 c) w) := by
 by_cases h0 : 21 ≤ c
 ·by_cases h1 : c ≤ 30
  ·go_enter Try.func98, Try.ntmps98
   go_wp2
   go_ret
   exact Says.yes ⟨h0, h1⟩ (More.refl _)
  ·go_enter Try.func98, Try.ntmps98
   go_wp2
   go_ret
   exact Says.no (fun h => by have := h.2; omega) (More.refl _)
 ·go_enter Try.func98, Try.ntmps98
  go_wp2
  go_ret
  exact Says.no (fun h => by have := h.1; omega) (More.refl _)

theorem words_lit (l : Int) (h0 : 0 ≤ l) (h1 : l ≤ 6) (n : Int) (hn : n = wordsI l) (s : Bool) (w : World) :
  Calls Try.prog 95 #[.agg #[.int .i64 l, .bool s]] w fun e w' => e = .returned (.int .i64 n) ∧ More w w' := by
 have : l = 0 ∨ l = 1 ∨ l = 2 ∨ l = 3 ∨ l = 4 ∨ l = 5 ∨ l = 6 := by omega
 clear h0 h1
 rcases this with rfl | rfl | rfl | rfl | rfl | rfl | rfl
 all_goals
  simp [wordsI] at hn
  subst hn
  go_enter Try.func95, Try.ntmps95
  go_wp2
  go_ret
  exact ⟨rfl, (More.refl _).alloc _ _⟩

theorem words_calls (l : Int) (h0 : 0 ≤ l) (h1 : l ≤ 6) (s : Bool) (w : World) :
  Calls Try.prog 95 #[.agg #[.int .i64 l, .bool s]] w fun e w' => e = .returned (.int .i64 (wordsI l)) ∧ More w w' :=
 words_lit l h0 h1 _ rfl s w
/-- What the named fields must be. -/
def FieldsOk (rl : Nat) (log : Nat → Int) (cl : Nat) (regs op a b c n : Int) : Prop :=
 if op = 1 then Reg regs a
 else if op = 2 then Reg regs a ∧ Reg regs b
 else if op = 3 then (Reg regs a ∧ Reg regs b) ∧ Rgn rl c
 else if op = 4 then (Reg regs a ∧ Reg regs b) ∧ Rgn rl c
 else if op = 5 then Reg regs a ∧ Rgn rl c ∧ Wrd log c n
 else if op = 6 then Reg regs a ∧ Rgn rl c ∧ Wrd log c n
 else if op = 7 then Plc cl n
 else if op = 8 then (Reg regs a ∧ Reg regs b) ∧ Btw 1 4 c ∧ Plc cl n
 else if op = 9 then Reg regs a
 else if op = 10 then Reg regs a ∧ Reg regs b
 else if op = 11 then Reg regs a ∧ Btw 1 64 n
 else if op = 12 then True
 else Btw 21 30 op ∧ Reg regs a ∧ Reg regs b ∧ Reg regs c

theorem registers1 (ra : Option Addr) (rl rc : Nat) (ca : Option Addr) (cl cc : Nat) (code regs : Int) (g c : Nat) (x : Int) (w : World) (h0 : w.cell? ⟨g, 0, none⟩ = some (.int .i64 x)) :
  Calls Try.prog 92 #[.agg #[.slice ra rl rc, .slice ca cl cc, .int .i64 code, .int .i64 regs], .slice (some ⟨g, 0, none⟩) 1 c] w (Says (Reg regs x) w) := by
 refine (registers_calls ra rl rc ca cl cc code regs g 1 c (by omega) (fun _ => x) w (fun i hi => ?_)).mono ?_
 ·obtain rfl : i = 0 := by omega
  exact h0
 ·rintro e w' ⟨r, rfl, hr, m⟩
  exact ⟨r, rfl, hr.trans ⟨fun h => h 0 (by omega), fun h _ _ => h⟩, m⟩

theorem registers2 (ra : Option Addr) (rl rc : Nat) (ca : Option Addr) (cl cc : Nat) (code regs : Int) (g c : Nat) (x y : Int) (w : World) (h0 : w.cell? ⟨g, 0, none⟩ = some (.int .i64 x)) (h1 : w.cell? ⟨g, 1, none⟩ = some (.int .i64 y)) :
  Calls Try.prog 92 #[.agg #[.slice ra rl rc, .slice ca cl cc, .int .i64 code, .int .i64 regs], .slice (some ⟨g, 0, none⟩) 2 c] w (Says (Reg regs x ∧ Reg regs y) w) := by
 refine (registers_calls ra rl rc ca cl cc code regs g 2 c (by omega) (fun i => if i = 0 then x else y) w (fun i hi => ?_)).mono ?_
 ·have : i = 0 ∨ i = 1 := by omega
  rcases this with rfl | rfl
  ·exact h0
  ·exact h1
 ·rintro e w' ⟨r, rfl, hr, m⟩
  refine ⟨r, rfl, hr.trans ⟨fun h => ⟨h 0 (by omega), h 1 (by omega)⟩, fun h i hi => ?_⟩, m⟩
  have : i = 0 ∨ i = 1 := by omega
  rcases this with rfl | rfl
  ·exact h.1
  ·exact h.2

theorem registers3 (ra : Option Addr) (rl rc : Nat) (ca : Option Addr) (cl cc : Nat) (code regs : Int) (g c : Nat) (x y z : Int) (w : World) (h0 : w.cell? ⟨g, 0, none⟩ = some (.int .i64 x)) (h1 : w.cell? ⟨g, 1, none⟩ = some (.int .i64 y)) (h2 : w.cell? ⟨g, 2, none⟩ = some (.int .i64 z)) :
  Calls Try.prog 92 #[.agg #[.slice ra rl rc, .slice ca cl cc, .int .i64 code, .int .i64 regs], .slice (some ⟨g, 0, none⟩) 3 c] w (Says (Reg regs x ∧ Reg regs y ∧ Reg regs z) w) := by
 refine (registers_calls ra rl rc ca cl cc code regs g 3 c (by omega) (fun i => if i = 0 then x else if i = 1 then y else z) w (fun i hi => ?_)).mono ?_
 ·have : i = 0 ∨ i = 1 ∨ i = 2 := by omega
  rcases this with rfl | rfl | rfl
  ·exact h0
  ·exact h1
  ·exact h2
 ·rintro e w' ⟨r, rfl, hr, m⟩
  refine ⟨r, rfl, hr.trans ⟨fun h => ⟨h 0 (by omega), h 1 (by omega), h 2 (by omega)⟩, fun h i hi => ?_⟩, m⟩
  have : i = 0 ∨ i = 1 ∨ i = 2 := by omega
  rcases this with rfl | rfl | rfl
  ·exact h.1
  ·exact h.2.1
  ·exact h.2.2

/-- The two boxes of the receiver and of the instruction, in a world that has grown since. -/
theorem boxes {w w1 : World} {x0 x1 x2 x3 y0 y1 y2 y3 y4 : Value} {t u : TypeId} (m : More ((w.alloc (.cells #[x0, x1, x2, x3] t)).alloc (.cells #[y0, y1, y2, y3, y4] u)) w1) :
  (w1.cell? ⟨w.heap.size, 0, none⟩ = some x0 ∧ w1.cell? ⟨w.heap.size, 1, none⟩ = some x1 ∧ w1.cell? ⟨w.heap.size, 2, none⟩ = some x2 ∧ w1.cell? ⟨w.heap.size, 3, none⟩ = some x3) ∧
  w1.cell? ⟨w.heap.size + 1, 0, none⟩ = some y0 ∧ w1.cell? ⟨w.heap.size + 1, 1, none⟩ = some y1 ∧ w1.cell? ⟨w.heap.size + 1, 2, none⟩ = some y2 ∧ w1.cell? ⟨w.heap.size + 1, 3, none⟩ = some y3 ∧ w1.cell? ⟨w.heap.size + 1, 4, none⟩ = some y4 := by
 refine ⟨⟨m.cell (by go_simp), m.cell (by go_simp), m.cell (by go_simp), m.cell (by go_simp)⟩, m.cell (by go_simp), m.cell (by go_simp), m.cell (by go_simp), m.cell (by go_simp), m.cell (by go_simp)⟩

theorem fields_1 (ra : Option Addr) (rl rc : Nat) (ca : Option Addr) (cl cc : Nat) (code regs : Int) (a b c n : Int) (w : World) :
  Calls Try.prog 85 #[.agg #[.slice ra rl rc, .slice ca cl cc, .int .i64 code, .int .i64 regs], .agg #[.int .i64 1, .int .i64 a, .int .i64 b, .int .i64 c, .int .i64 n]] w (Says (Reg regs a) w) := by
 go_enter Try.func85, Try.ntmps85
 go_wp2_with (fail)
 refine (registers1 ra rl rc ca cl cc code regs _ _ a _ (by go_simp)).mono ?_
 rintro e w1 ⟨r, rfl, hr, m⟩
 have Hr : Hid ((r = true ↔ Reg regs a) ∧ More w w1) := ⟨hr, ((((More.refl _).alloc _ _).alloc _ _).alloc _ _).trans m⟩
 clear hr m
 go_wp2
 go_ret
 exact ⟨r, rfl, Hr.out.1, Hr.out.2⟩

theorem fields_9 (ra : Option Addr) (rl rc : Nat) (ca : Option Addr) (cl cc : Nat) (code regs : Int) (a b c n : Int) (w : World) :
  Calls Try.prog 85 #[.agg #[.slice ra rl rc, .slice ca cl cc, .int .i64 code, .int .i64 regs], .agg #[.int .i64 9, .int .i64 a, .int .i64 b, .int .i64 c, .int .i64 n]] w (Says (Reg regs a) w) := by
 go_enter Try.func85, Try.ntmps85
 go_wp2_with (fail)
 refine (registers1 ra rl rc ca cl cc code regs _ _ a _ (by go_simp)).mono ?_
 rintro e w1 ⟨r, rfl, hr, m⟩
 have Hr : Hid ((r = true ↔ Reg regs a) ∧ More w w1) := ⟨hr, ((((More.refl _).alloc _ _).alloc _ _).alloc _ _).trans m⟩
 clear hr m
 go_wp2
 go_ret
 exact ⟨r, rfl, Hr.out.1, Hr.out.2⟩

theorem fields_2 (ra : Option Addr) (rl rc : Nat) (ca : Option Addr) (cl cc : Nat) (code regs : Int) (a b c n : Int) (w : World) :
  Calls Try.prog 85 #[.agg #[.slice ra rl rc, .slice ca cl cc, .int .i64 code, .int .i64 regs], .agg #[.int .i64 2, .int .i64 a, .int .i64 b, .int .i64 c, .int .i64 n]] w (Says (Reg regs a ∧ Reg regs b) w) := by
 go_enter Try.func85, Try.ntmps85
 go_wp2_with (fail)
 refine (registers2 ra rl rc ca cl cc code regs _ _ a b _ (by go_simp) (by go_simp)).mono ?_
 rintro e w1 ⟨r, rfl, hr, m⟩
 have Hr : Hid ((r = true ↔ Reg regs a ∧ Reg regs b) ∧ More w w1) := ⟨hr, ((((More.refl _).alloc _ _).alloc _ _).alloc _ _).trans m⟩
 clear hr m
 go_wp2
 go_ret
 exact ⟨r, rfl, Hr.out.1, Hr.out.2⟩

theorem fields_10 (ra : Option Addr) (rl rc : Nat) (ca : Option Addr) (cl cc : Nat) (code regs : Int) (a b c n : Int) (w : World) :
  Calls Try.prog 85 #[.agg #[.slice ra rl rc, .slice ca cl cc, .int .i64 code, .int .i64 regs], .agg #[.int .i64 10, .int .i64 a, .int .i64 b, .int .i64 c, .int .i64 n]] w (Says (Reg regs a ∧ Reg regs b) w) := by
 go_enter Try.func85, Try.ntmps85
 go_wp2_with (fail)
 refine (registers2 ra rl rc ca cl cc code regs _ _ a b _ (by go_simp) (by go_simp)).mono ?_
 rintro e w1 ⟨r, rfl, hr, m⟩
 have Hr : Hid ((r = true ↔ Reg regs a ∧ Reg regs b) ∧ More w w1) := ⟨hr, ((((More.refl _).alloc _ _).alloc _ _).alloc _ _).trans m⟩
 clear hr m
 go_wp2
 go_ret
 exact ⟨r, rfl, Hr.out.1, Hr.out.2⟩

theorem fields_3 (ra : Option Addr) (rl rc : Nat) (ca : Option Addr) (cl cc : Nat) (code regs : Int) (a b c n : Int) (w : World) :
  Calls Try.prog 85 #[.agg #[.slice ra rl rc, .slice ca cl cc, .int .i64 code, .int .i64 regs], .agg #[.int .i64 3, .int .i64 a, .int .i64 b, .int .i64 c, .int .i64 n]] w (Says ((Reg regs a ∧ Reg regs b) ∧ Rgn rl c) w) := by
 go_enter Try.func85, Try.ntmps85
 go_wp2_with (fail)
 refine (registers2 ra rl rc ca cl cc code regs _ _ a b _ (by go_simp) (by go_simp)).mono ?_
 rintro e w1 ⟨r, rfl, hr, m⟩
 obtain ⟨⟨c0, c1, c2, c3⟩, d0, d1, d2, d3, d4⟩ := boxes (((More.refl _).alloc _ _).trans m)
 have m' := ((((More.refl _).alloc _ _).alloc _ _).alloc _ _).trans m
 have Hm : Hid (More w w1) := m'
 clear m m'
 cases r with
 | false =>
  have Hr : Hid (¬ (Reg regs a ∧ Reg regs b)) := fun h => by simpa using hr.2 h
  clear hr
  go_wp2
  go_ret
  exact Says.no (fun h => Hr.out h.1) Hm.out
 | true =>
  have Hr : Hid (Reg regs a ∧ Reg regs b) := hr.1 rfl
  clear hr
  go_wp2_with (fail)
  refine (region_calls ra rl rc ca cl cc code regs c _).mono ?_
  rintro e w2 ⟨r2, rfl, hr2, m2⟩
  have H2 : Hid ((r2 = true ↔ Rgn rl c) ∧ More w1 w2) := ⟨hr2, m2⟩
  clear hr2 m2
  go_wp2
  go_ret
  exact ⟨r2, rfl, H2.out.1.trans ⟨fun h => ⟨Hr.out, h⟩, fun h => h.2⟩, Hm.out.trans H2.out.2⟩

theorem fields_4 (ra : Option Addr) (rl rc : Nat) (ca : Option Addr) (cl cc : Nat) (code regs : Int) (a b c n : Int) (w : World) :
  Calls Try.prog 85 #[.agg #[.slice ra rl rc, .slice ca cl cc, .int .i64 code, .int .i64 regs], .agg #[.int .i64 4, .int .i64 a, .int .i64 b, .int .i64 c, .int .i64 n]] w (Says ((Reg regs a ∧ Reg regs b) ∧ Rgn rl c) w) := by
 go_enter Try.func85, Try.ntmps85
 go_wp2_with (fail)
 refine (registers2 ra rl rc ca cl cc code regs _ _ a b _ (by go_simp) (by go_simp)).mono ?_
 rintro e w1 ⟨r, rfl, hr, m⟩
 obtain ⟨⟨c0, c1, c2, c3⟩, d0, d1, d2, d3, d4⟩ := boxes (((More.refl _).alloc _ _).trans m)
 have m' := ((((More.refl _).alloc _ _).alloc _ _).alloc _ _).trans m
 have Hm : Hid (More w w1) := m'
 clear m m'
 cases r with
 | false =>
  have Hr : Hid (¬ (Reg regs a ∧ Reg regs b)) := fun h => by simpa using hr.2 h
  clear hr
  go_wp2
  go_ret
  exact Says.no (fun h => Hr.out h.1) Hm.out
 | true =>
  have Hr : Hid (Reg regs a ∧ Reg regs b) := hr.1 rfl
  clear hr
  go_wp2_with (fail)
  refine (region_calls ra rl rc ca cl cc code regs c _).mono ?_
  rintro e w2 ⟨r2, rfl, hr2, m2⟩
  have H2 : Hid ((r2 = true ↔ Rgn rl c) ∧ More w1 w2) := ⟨hr2, m2⟩
  clear hr2 m2
  go_wp2
  go_ret
  exact ⟨r2, rfl, H2.out.1.trans ⟨fun h => ⟨Hr.out, h⟩, fun h => h.2⟩, Hm.out.trans H2.out.2⟩

theorem fields_7 (ra : Option Addr) (rl rc : Nat) (ca : Option Addr) (cl cc : Nat) (code regs : Int) (a b c n : Int) (w : World) :
  Calls Try.prog 85 #[.agg #[.slice ra rl rc, .slice ca cl cc, .int .i64 code, .int .i64 regs], .agg #[.int .i64 7, .int .i64 a, .int .i64 b, .int .i64 c, .int .i64 n]] w (Says (Plc cl n) w) := by
 go_enter Try.func85, Try.ntmps85
 go_wp2_with (fail)
 refine (place_calls ra rl rc ca cl cc code regs n _).mono ?_
 rintro e w1 ⟨r, rfl, hr, m⟩
 have Hr : Hid ((r = true ↔ Plc cl n) ∧ More w w1) := ⟨hr, (((More.refl _).alloc _ _).alloc _ _).trans m⟩
 clear hr m
 go_wp2
 go_ret
 exact ⟨r, rfl, Hr.out.1, Hr.out.2⟩

theorem fields_8 (ra : Option Addr) (rl rc : Nat) (ca : Option Addr) (cl cc : Nat) (code regs : Int) (a b c n : Int) (w : World) :
  Calls Try.prog 85 #[.agg #[.slice ra rl rc, .slice ca cl cc, .int .i64 code, .int .i64 regs], .agg #[.int .i64 8, .int .i64 a, .int .i64 b, .int .i64 c, .int .i64 n]] w (Says ((Reg regs a ∧ Reg regs b) ∧ Btw 1 4 c ∧ Plc cl n) w) := by
 go_enter Try.func85, Try.ntmps85
 go_wp2_with (fail)
 refine (registers2 ra rl rc ca cl cc code regs _ _ a b _ (by go_simp) (by go_simp)).mono ?_
 rintro e w1 ⟨r, rfl, hr, m⟩
 obtain ⟨⟨c0, c1, c2, c3⟩, d0, d1, d2, d3, d4⟩ := boxes (((More.refl _).alloc _ _).trans m)
 have m' := ((((More.refl _).alloc _ _).alloc _ _).alloc _ _).trans m
 have Hm : Hid (More w w1) := m'
 clear m m'
 cases r with
 | false =>
  have Hr : Hid (¬ (Reg regs a ∧ Reg regs b)) := fun h => by simpa using hr.2 h
  clear hr
  go_wp2
  go_ret
  exact Says.no (fun h => Hr.out h.1) Hm.out
 | true =>
  have Hr : Hid (Reg regs a ∧ Reg regs b) := hr.1 rfl
  clear hr
  go_wp2_with (fail)
  refine (condition_calls c _).mono ?_
  rintro e w2 ⟨r2, rfl, hr2, m2⟩
  have e0 := m2.cell c0
  have e1 := m2.cell c1
  have e2 := m2.cell c2
  have e3 := m2.cell c3
  have e4 := m2.cell d4
  clear c0 c1 c2 c3 d0 d1 d2 d3 d4
  have H2m : Hid (More w1 w2) := m2
  clear m2
  cases r2 with
  | false =>
   have H2 : Hid (¬ Btw 1 4 c) := fun h => by simpa using hr2.2 h
   clear hr2
   go_wp2
   go_ret
   exact Says.no (fun h => H2.out h.2.1) (Hm.out.trans H2m.out)
  | true =>
   have H2 : Hid (Btw 1 4 c) := hr2.1 rfl
   clear hr2
   go_wp2_with (fail)
   refine (place_calls ra rl rc ca cl cc code regs n _).mono ?_
   rintro e w3 ⟨r3, rfl, hr3, m3⟩
   have H3 : Hid ((r3 = true ↔ Plc cl n) ∧ More w2 w3) := ⟨hr3, m3⟩
   clear hr3 m3
   go_wp2
   go_ret
   exact ⟨r3, rfl, H3.out.1.trans ⟨fun h => ⟨Hr.out, H2.out, h⟩, fun h => h.2.2⟩, (Hm.out.trans H2m.out).trans H3.out.2⟩

theorem fields_11 (ra : Option Addr) (rl rc : Nat) (ca : Option Addr) (cl cc : Nat) (code regs : Int) (a b c n : Int) (w : World) :
  Calls Try.prog 85 #[.agg #[.slice ra rl rc, .slice ca cl cc, .int .i64 code, .int .i64 regs], .agg #[.int .i64 11, .int .i64 a, .int .i64 b, .int .i64 c, .int .i64 n]] w (Says (Reg regs a ∧ Btw 1 64 n) w) := by
 go_enter Try.func85, Try.ntmps85
 go_wp2_with (fail)
 refine (registers1 ra rl rc ca cl cc code regs _ _ a _ (by go_simp)).mono ?_
 rintro e w1 ⟨r, rfl, hr, m⟩
 obtain ⟨⟨c0, c1, c2, c3⟩, d0, d1, d2, d3, d4⟩ := boxes (((More.refl _).alloc _ _).trans m)
 have m' := ((((More.refl _).alloc _ _).alloc _ _).alloc _ _).trans m
 have Hm : Hid (More w w1) := m'
 clear m m'
 cases r with
 | false =>
  have Hr : Hid (¬ (Reg regs a)) := fun h => by simpa using hr.2 h
  clear hr
  go_wp2
  go_ret
  exact Says.no (fun h => Hr.out h.1) Hm.out
 | true =>
  have Hr : Hid (Reg regs a) := hr.1 rfl
  clear hr
  by_cases h0 : 1 ≤ n
  ·by_cases h1 : n ≤ 64
   ·go_wp2
    go_ret
    exact Says.yes ⟨Hr.out, h0, h1⟩ Hm.out
   ·go_wp2
    go_ret
    exact ⟨_, rfl, ⟨fun h => by simp at h <;> omega, fun h => by have := h.2.2; omega⟩, Hm.out⟩
  ·go_wp2
   go_ret
   exact Says.no (fun h => by have := h.2.1; omega) Hm.out

theorem fields_12 (ra : Option Addr) (rl rc : Nat) (ca : Option Addr) (cl cc : Nat) (code regs : Int) (a b c n : Int) (w : World) :
  Calls Try.prog 85 #[.agg #[.slice ra rl rc, .slice ca cl cc, .int .i64 code, .int .i64 regs], .agg #[.int .i64 12, .int .i64 a, .int .i64 b, .int .i64 c, .int .i64 n]] w (Says (True) w) := by
 go_enter Try.func85, Try.ntmps85
 go_wp2
 go_ret
 exact Says.yes trivial (((More.refl _).alloc _ _).alloc _ _)

theorem fields_else (ra : Option Addr) (rl rc : Nat) (ca : Option Addr) (cl cc : Nat) (code regs : Int) (op a b c n : Int) (h1 : ¬ op = 1) (h2 : ¬ op = 2) (h3 : ¬ op = 3) (h4 : ¬ op = 4) (h5 : ¬ op = 5) (h6 : ¬ op = 6) (h7 : ¬ op = 7) (h8 : ¬ op = 8) (h9 : ¬ op = 9) (h10 : ¬ op = 10) (h11 : ¬ op = 11) (h12 : ¬ op = 12) (w : World) :
  Calls Try.prog 85 #[.agg #[.slice ra rl rc, .slice ca cl cc, .int .i64 code, .int .i64 regs], .agg #[.int .i64 op, .int .i64 a, .int .i64 b, .int .i64 c, .int .i64 n]] w (Says (Btw 21 30 op ∧ Reg regs a ∧ Reg regs b ∧ Reg regs c) w) := by
 go_enter Try.func85, Try.ntmps85
 go_wp2_with (fail)
 clear h1 h2 h3 h4 h5 h6 h7 h8 h9 h10 h11 h12
 refine (operation_calls op _).mono ?_
 rintro e w1 ⟨r, rfl, hr, m⟩
 obtain ⟨⟨c0, c1, c2, c3⟩, d0, d1, d2, d3, d4⟩ := boxes m
 have Hm : Hid (More w w1) := (((More.refl _).alloc _ _).alloc _ _).trans m
 clear m
 cases r with
 | false =>
  have Hr : Hid (¬ (Btw 21 30 op)) := fun h => by simpa using hr.2 h
  clear hr
  go_wp2
  go_ret
  exact Says.no (fun h => Hr.out h.1) Hm.out
 | true =>
  have Hr : Hid (Btw 21 30 op) := hr.1 rfl
  clear hr
  go_wp2_with (fail)
  refine (registers3 ra rl rc ca cl cc code regs _ _ a b c _ (by go_simp) (by go_simp) (by go_simp)).mono ?_
  rintro e w2 ⟨r2, rfl, hr2, m2⟩
  have H2 : Hid ((r2 = true ↔ Reg regs a ∧ Reg regs b ∧ Reg regs c) ∧ More w1 w2) := ⟨hr2, ((More.refl _).alloc _ _).trans m2⟩
  clear hr2 m2
  go_wp2
  go_ret
  exact ⟨r2, rfl, H2.out.1.trans ⟨fun h => ⟨Hr.out, h⟩, fun h => h.2⟩, Hm.out.trans H2.out.2⟩
set_option maxHeartbeats 1000000 in
theorem fields_56_noreg (ov_ : Int) (hov_ : ov_ = 5 ∨ ov_ = 6) (ra : Option Addr) (rl rc : Nat) (ca : Option Addr) (cl cc : Nat) (code regs : Int) (a b c n : Int) (w : World)
  (creg : ∀ (g cp : Nat) (w : World), w.cell? ⟨g, 0, none⟩ = some (.int .i64 a) → Calls Try.prog 92 #[.agg #[.slice ra rl rc, .slice ca cl cc, .int .i64 code, .int .i64 regs], .slice (some ⟨g, 0, none⟩) 1 cp] w fun e w' => e = .returned (.bool false) ∧ More w w') :
  Calls Try.prog 85 #[.agg #[.slice ra rl rc, .slice ca cl cc, .int .i64 code, .int .i64 regs], .agg #[.int .i64 ov_, .int .i64 a, .int .i64 b, .int .i64 c, .int .i64 n]] w fun e w' => e = .returned (.bool false) ∧ More w w' := by
 have Hcreg : Hid (∀ (g cp : Nat) (w : World), w.cell? ⟨g, 0, none⟩ = some (.int .i64 a) → Calls Try.prog 92 #[.agg #[.slice ra rl rc, .slice ca cl cc, .int .i64 code, .int .i64 regs], .slice (some ⟨g, 0, none⟩) 1 cp] w fun e w' => e = .returned (.bool false) ∧ More w w') := creg
 clear creg
 obtain ⟨W, HW⟩ : ∃ W : World, Hid (W = ((w.alloc (.cells #[.slice ra rl rc, .slice ca cl cc, .int .i64 code, .int .i64 regs] 108)).alloc (.cells #[.int .i64 ov_, .int .i64 a, .int .i64 b, .int .i64 c, .int .i64 n] 59))) := ⟨_, rfl⟩
 rcases hov_ with rfl | rfl
 all_goals
  have Hw : Hid (More w W) := HW.out ▸ (((More.refl _).alloc _ _).alloc _ _)
  obtain ⟨S, HS⟩ : ∃ S : World → Prop, Hid (∀ w', S w' ↔ More W w') := ⟨fun w' => More W w', fun _ => Iff.rfl⟩
  have k00 : ∀ i : { w' // S w' }, i.val.cell? ⟨w.heap.size, 0, none⟩ = some (.slice ra rl rc) := fun i => ((HS.out _).1 i.property).cell (by rw [HW.out]; go_simp)
  have k01 : ∀ i : { w' // S w' }, i.val.cell? ⟨w.heap.size, 1, none⟩ = some (.slice ca cl cc) := fun i => ((HS.out _).1 i.property).cell (by rw [HW.out]; go_simp)
  have k02 : ∀ i : { w' // S w' }, i.val.cell? ⟨w.heap.size, 2, none⟩ = some (.int .i64 code) := fun i => ((HS.out _).1 i.property).cell (by rw [HW.out]; go_simp)
  have k03 : ∀ i : { w' // S w' }, i.val.cell? ⟨w.heap.size, 3, none⟩ = some (.int .i64 regs) := fun i => ((HS.out _).1 i.property).cell (by rw [HW.out]; go_simp)
  have k11 : ∀ i : { w' // S w' }, i.val.cell? ⟨w.heap.size + 1, 1, none⟩ = some (.int .i64 a) := fun i => ((HS.out _).1 i.property).cell (by rw [HW.out]; go_simp)
  have k13 : ∀ i : { w' // S w' }, i.val.cell? ⟨w.heap.size + 1, 3, none⟩ = some (.int .i64 c) := fun i => ((HS.out _).1 i.property).cell (by rw [HW.out]; go_simp)
  have k14 : ∀ i : { w' // S w' }, i.val.cell? ⟨w.heap.size + 1, 4, none⟩ = some (.int .i64 n) := fun i => ((HS.out _).1 i.property).cell (by rw [HW.out]; go_simp)
  have hne : Nonempty { w' // S w' } := ⟨⟨W, (HS.out _).2 (More.refl _)⟩⟩
  go_enter Try.func85, Try.ntmps85
  go_wp2_with (fail)
  refine wp_region_ord (S := S) [(0, true), (1, true), (2, true), (3, false), (4, false), (5, true), (6, true), (7, true), (8, true), (9, false), (10, true), (11, true), (12, true), (13, true), (14, true), (15, true), (16, true), (17, true), (18, true), (19, true), (20, true), (21, false), (22, false), (23, true), (24, true)] (by kernel_rfl) (by kernel_rfl) (by kernel_rfl) ((HS.out _).2 (HW.out ▸ (More.refl _).drew)) ?_
  iterate 3 (refine wpOrd_take rfl (by kernel_rfl) (fun K hK => ?_); go_simp; refine hK _ _ ?_; clear hK K)
  refine wpOrd_busy rfl (by kernel_rfl) (fun K hK => ?_); go_simp; refine hK _ _ ((HS.out _).2 (HW.out ▸ (by repeat (first | exact More.refl _ | apply More.drew | apply More.alloc)))) ?_; clear hK K
  refine wpOrd_busy rfl (by kernel_rfl) (fun K hK => ?_); go_simp
  refine (Hcreg.out _ _ _ (by go_simp)).mono ?_
  rintro e w1 ⟨rfl, m1⟩
  go_simp
  have Hm1 : Hid (More W w1) := HW.out ▸ More.trans (by repeat (first | exact More.refl _ | apply More.drew | apply More.alloc)) m1
  clear m1
  refine hK _ _ ((HS.out _).2 Hm1.out) ?_; clear hK K
  refine wpOrd_move rfl rfl (by kernel_rfl) (fun K hK => ?_); go_simp; refine hK _ _ ?_; clear hK K
  iterate 4 (refine wpOrd_skip rfl ((HS.out _).2 Hm1.out) (by kernel_rfl) (by kernel_rfl) ?_)
  refine wpOrd_pickF rfl rfl (by kernel_rfl) rfl (fun K hK => ?_); go_simp; refine hK _ _ ?_; clear hK K
  refine wpOrd_move rfl rfl (by kernel_rfl) (fun K hK => ?_); go_simp; refine hK _ _ ?_; clear hK K
  iterate 11 (refine wpOrd_skip rfl ((HS.out _).2 Hm1.out) (by kernel_rfl) (by kernel_rfl) ?_)
  refine wpOrd_pickF rfl rfl (by kernel_rfl) rfl (fun K hK => ?_); go_simp; refine hK _ _ ?_; clear hK K
  refine wpOrd_assign rfl rfl (by kernel_rfl) (fun K hK => ?_); go_simp; refine hK _ _ ?_; clear hK K
  refine wpOrd_done ?_
  go_wp2
  go_ret
  exact ⟨rfl, Hw.out.trans Hm1.out⟩

set_option maxHeartbeats 1000000 in
theorem fields_56_norgn (ov_ : Int) (hov_ : ov_ = 5 ∨ ov_ = 6) (ra : Option Addr) (rl rc : Nat) (ca : Option Addr) (cl cc : Nat) (code regs : Int) (a b c n : Int) (w : World)
  (creg : ∀ (g cp : Nat) (w : World), w.cell? ⟨g, 0, none⟩ = some (.int .i64 a) → Calls Try.prog 92 #[.agg #[.slice ra rl rc, .slice ca cl cc, .int .i64 code, .int .i64 regs], .slice (some ⟨g, 0, none⟩) 1 cp] w fun e w' => e = .returned (.bool true) ∧ More w w')
  (crgn : ∀ (w : World), Calls Try.prog 93 #[.agg #[.slice ra rl rc, .slice ca cl cc, .int .i64 code, .int .i64 regs], .int .i64 c] w fun e w' => e = .returned (.bool false) ∧ More w w') :
  Calls Try.prog 85 #[.agg #[.slice ra rl rc, .slice ca cl cc, .int .i64 code, .int .i64 regs], .agg #[.int .i64 ov_, .int .i64 a, .int .i64 b, .int .i64 c, .int .i64 n]] w fun e w' => e = .returned (.bool false) ∧ More w w' := by
 have Hcreg : Hid (∀ (g cp : Nat) (w : World), w.cell? ⟨g, 0, none⟩ = some (.int .i64 a) → Calls Try.prog 92 #[.agg #[.slice ra rl rc, .slice ca cl cc, .int .i64 code, .int .i64 regs], .slice (some ⟨g, 0, none⟩) 1 cp] w fun e w' => e = .returned (.bool true) ∧ More w w') := creg
 clear creg
 have Hcrgn : Hid (∀ (w : World), Calls Try.prog 93 #[.agg #[.slice ra rl rc, .slice ca cl cc, .int .i64 code, .int .i64 regs], .int .i64 c] w fun e w' => e = .returned (.bool false) ∧ More w w') := crgn
 clear crgn
 obtain ⟨W, HW⟩ : ∃ W : World, Hid (W = ((w.alloc (.cells #[.slice ra rl rc, .slice ca cl cc, .int .i64 code, .int .i64 regs] 108)).alloc (.cells #[.int .i64 ov_, .int .i64 a, .int .i64 b, .int .i64 c, .int .i64 n] 59))) := ⟨_, rfl⟩
 rcases hov_ with rfl | rfl
 all_goals
  have Hw : Hid (More w W) := HW.out ▸ (((More.refl _).alloc _ _).alloc _ _)
  obtain ⟨S, HS⟩ : ∃ S : World → Prop, Hid (∀ w', S w' ↔ More W w') := ⟨fun w' => More W w', fun _ => Iff.rfl⟩
  have k00 : ∀ i : { w' // S w' }, i.val.cell? ⟨w.heap.size, 0, none⟩ = some (.slice ra rl rc) := fun i => ((HS.out _).1 i.property).cell (by rw [HW.out]; go_simp)
  have k01 : ∀ i : { w' // S w' }, i.val.cell? ⟨w.heap.size, 1, none⟩ = some (.slice ca cl cc) := fun i => ((HS.out _).1 i.property).cell (by rw [HW.out]; go_simp)
  have k02 : ∀ i : { w' // S w' }, i.val.cell? ⟨w.heap.size, 2, none⟩ = some (.int .i64 code) := fun i => ((HS.out _).1 i.property).cell (by rw [HW.out]; go_simp)
  have k03 : ∀ i : { w' // S w' }, i.val.cell? ⟨w.heap.size, 3, none⟩ = some (.int .i64 regs) := fun i => ((HS.out _).1 i.property).cell (by rw [HW.out]; go_simp)
  have k11 : ∀ i : { w' // S w' }, i.val.cell? ⟨w.heap.size + 1, 1, none⟩ = some (.int .i64 a) := fun i => ((HS.out _).1 i.property).cell (by rw [HW.out]; go_simp)
  have k13 : ∀ i : { w' // S w' }, i.val.cell? ⟨w.heap.size + 1, 3, none⟩ = some (.int .i64 c) := fun i => ((HS.out _).1 i.property).cell (by rw [HW.out]; go_simp)
  have k14 : ∀ i : { w' // S w' }, i.val.cell? ⟨w.heap.size + 1, 4, none⟩ = some (.int .i64 n) := fun i => ((HS.out _).1 i.property).cell (by rw [HW.out]; go_simp)
  have hne : Nonempty { w' // S w' } := ⟨⟨W, (HS.out _).2 (More.refl _)⟩⟩
  go_enter Try.func85, Try.ntmps85
  go_wp2_with (fail)
  refine wp_region_ord (S := S) [(0, true), (1, true), (2, true), (3, false), (4, false), (5, true), (6, true), (7, true), (8, true), (9, false), (10, true), (11, true), (12, true), (13, true), (14, true), (15, true), (16, true), (17, true), (18, true), (19, true), (20, true), (21, false), (22, false), (23, true), (24, true)] (by kernel_rfl) (by kernel_rfl) (by kernel_rfl) ((HS.out _).2 (HW.out ▸ (More.refl _).drew)) ?_
  iterate 3 (refine wpOrd_take rfl (by kernel_rfl) (fun K hK => ?_); go_simp; refine hK _ _ ?_; clear hK K)
  refine wpOrd_busy rfl (by kernel_rfl) (fun K hK => ?_); go_simp; refine hK _ _ ((HS.out _).2 (HW.out ▸ (by repeat (first | exact More.refl _ | apply More.drew | apply More.alloc)))) ?_; clear hK K
  refine wpOrd_busy rfl (by kernel_rfl) (fun K hK => ?_); go_simp
  refine (Hcreg.out _ _ _ (by go_simp)).mono ?_
  rintro e w1 ⟨rfl, m1⟩
  go_simp
  have Hm1 : Hid (More W w1) := HW.out ▸ More.trans (by repeat (first | exact More.refl _ | apply More.drew | apply More.alloc)) m1
  clear m1
  refine hK _ _ ((HS.out _).2 Hm1.out) ?_; clear hK K
  refine wpOrd_move rfl rfl (by kernel_rfl) (fun K hK => ?_); go_simp; refine hK _ _ ?_; clear hK K
  iterate 3 (refine wpOrd_take rfl (by kernel_rfl) (fun K hK => ?_); go_simp; refine hK _ _ ?_; clear hK K)
  refine wpOrd_busy rfl (by kernel_rfl) (fun K hK => ?_); go_simp
  refine (Hcrgn.out _).mono ?_
  rintro e w2 ⟨rfl, m2⟩
  go_simp
  have Hm2 : Hid (More W w2) := Hm1.out.trans m2
  clear m2
  refine hK _ _ ((HS.out _).2 Hm2.out) ?_; clear hK K
  refine wpOrd_pickT rfl rfl (by kernel_rfl) rfl (fun K hK => ?_); go_simp; refine hK _ _ ?_; clear hK K
  refine wpOrd_move rfl rfl (by kernel_rfl) (fun K hK => ?_); go_simp; refine hK _ _ ?_; clear hK K
  iterate 11 (refine wpOrd_skip rfl ((HS.out _).2 Hm2.out) (by kernel_rfl) (by kernel_rfl) ?_)
  refine wpOrd_pickF rfl rfl (by kernel_rfl) rfl (fun K hK => ?_); go_simp; refine hK _ _ ?_; clear hK K
  refine wpOrd_assign rfl rfl (by kernel_rfl) (fun K hK => ?_); go_simp; refine hK _ _ ?_; clear hK K
  refine wpOrd_done ?_
  go_wp2
  go_ret
  exact ⟨rfl, Hw.out.trans Hm2.out⟩

set_option maxHeartbeats 1000000 in
theorem fields_56_all (ov_ : Int) (hov_ : ov_ = 5 ∨ ov_ = 6) (rb ro : Nat) (rl rc : Nat) (ca : Option Addr) (cl cc : Nat) (code regs : Int) (a b c n : Int) (l nw : Int) (s : Bool) (w : World) (h0 : 0 ≤ c) (h1 : c < (rl : Int))
  (hr0 : w.cell? ⟨rb, ro + c.toNat * 2, none⟩ = some (.int .i64 l)) (hr1 : w.cell? ⟨rb, ro + c.toNat * 2 + 1, none⟩ = some (.bool s))
  (creg : ∀ (g cp : Nat) (w : World), w.cell? ⟨g, 0, none⟩ = some (.int .i64 a) → Calls Try.prog 92 #[.agg #[.slice (some ⟨rb, ro, none⟩) rl rc, .slice ca cl cc, .int .i64 code, .int .i64 regs], .slice (some ⟨g, 0, none⟩) 1 cp] w fun e w' => e = .returned (.bool true) ∧ More w w')
  (crgn : ∀ (w : World), Calls Try.prog 93 #[.agg #[.slice (some ⟨rb, ro, none⟩) rl rc, .slice ca cl cc, .int .i64 code, .int .i64 regs], .int .i64 c] w fun e w' => e = .returned (.bool true) ∧ More w w')
  (cwrd : ∀ (w : World), Calls Try.prog 95 #[.agg #[.int .i64 l, .bool s]] w fun e w' => e = .returned (.int .i64 nw) ∧ More w w') :
  Calls Try.prog 85 #[.agg #[.slice (some ⟨rb, ro, none⟩) rl rc, .slice ca cl cc, .int .i64 code, .int .i64 regs], .agg #[.int .i64 ov_, .int .i64 a, .int .i64 b, .int .i64 c, .int .i64 n]] w (Says (Blw n nw) w) := by
 have Hcreg : Hid (∀ (g cp : Nat) (w : World), w.cell? ⟨g, 0, none⟩ = some (.int .i64 a) → Calls Try.prog 92 #[.agg #[.slice (some ⟨rb, ro, none⟩) rl rc, .slice ca cl cc, .int .i64 code, .int .i64 regs], .slice (some ⟨g, 0, none⟩) 1 cp] w fun e w' => e = .returned (.bool true) ∧ More w w') := creg
 clear creg
 have Hcrgn : Hid (∀ (w : World), Calls Try.prog 93 #[.agg #[.slice (some ⟨rb, ro, none⟩) rl rc, .slice ca cl cc, .int .i64 code, .int .i64 regs], .int .i64 c] w fun e w' => e = .returned (.bool true) ∧ More w w') := crgn
 clear crgn
 have Hcwrd : Hid (∀ (w : World), Calls Try.prog 95 #[.agg #[.int .i64 l, .bool s]] w fun e w' => e = .returned (.int .i64 nw) ∧ More w w') := cwrd
 clear cwrd
 obtain ⟨W, HW⟩ : ∃ W : World, Hid (W = ((w.alloc (.cells #[.slice (some ⟨rb, ro, none⟩) rl rc, .slice ca cl cc, .int .i64 code, .int .i64 regs] 108)).alloc (.cells #[.int .i64 ov_, .int .i64 a, .int .i64 b, .int .i64 c, .int .i64 n] 59))) := ⟨_, rfl⟩
 rcases hov_ with rfl | rfl
 all_goals
  have Hw : Hid (More w W) := HW.out ▸ (((More.refl _).alloc _ _).alloc _ _)
  obtain ⟨S, HS⟩ : ∃ S : World → Prop, Hid (∀ w', S w' ↔ More W w') := ⟨fun w' => More W w', fun _ => Iff.rfl⟩
  have k00 : ∀ i : { w' // S w' }, i.val.cell? ⟨w.heap.size, 0, none⟩ = some (.slice (some ⟨rb, ro, none⟩) rl rc) := fun i => ((HS.out _).1 i.property).cell (by rw [HW.out]; go_simp)
  have k01 : ∀ i : { w' // S w' }, i.val.cell? ⟨w.heap.size, 1, none⟩ = some (.slice ca cl cc) := fun i => ((HS.out _).1 i.property).cell (by rw [HW.out]; go_simp)
  have k02 : ∀ i : { w' // S w' }, i.val.cell? ⟨w.heap.size, 2, none⟩ = some (.int .i64 code) := fun i => ((HS.out _).1 i.property).cell (by rw [HW.out]; go_simp)
  have k03 : ∀ i : { w' // S w' }, i.val.cell? ⟨w.heap.size, 3, none⟩ = some (.int .i64 regs) := fun i => ((HS.out _).1 i.property).cell (by rw [HW.out]; go_simp)
  have k11 : ∀ i : { w' // S w' }, i.val.cell? ⟨w.heap.size + 1, 1, none⟩ = some (.int .i64 a) := fun i => ((HS.out _).1 i.property).cell (by rw [HW.out]; go_simp)
  have k13 : ∀ i : { w' // S w' }, i.val.cell? ⟨w.heap.size + 1, 3, none⟩ = some (.int .i64 c) := fun i => ((HS.out _).1 i.property).cell (by rw [HW.out]; go_simp)
  have k14 : ∀ i : { w' // S w' }, i.val.cell? ⟨w.heap.size + 1, 4, none⟩ = some (.int .i64 n) := fun i => ((HS.out _).1 i.property).cell (by rw [HW.out]; go_simp)
  have kr0 : ∀ i : { w' // S w' }, i.val.cell? ⟨rb, ro + c.toNat * 2, none⟩ = some (.int .i64 l) := fun i => ((HS.out _).1 i.property).cell (Hw.out.cell hr0)
  have kr1 : ∀ i : { w' // S w' }, i.val.cell? ⟨rb, ro + c.toNat * 2 + 1, none⟩ = some (.bool s) := fun i => ((HS.out _).1 i.property).cell (Hw.out.cell hr1)
  have hne : Nonempty { w' // S w' } := ⟨⟨W, (HS.out _).2 (More.refl _)⟩⟩
  clear hr0 hr1
  go_enter Try.func85, Try.ntmps85
  go_wp2_with (fail)
  refine wp_region_ord (S := S) [(0, true), (1, true), (2, true), (3, false), (4, false), (5, true), (6, true), (7, true), (8, true), (9, false), (10, true), (11, true), (12, true), (13, true), (14, true), (15, true), (16, true), (17, true), (18, true), (19, true), (20, true), (21, false), (22, false), (23, true), (24, true)] (by kernel_rfl) (by kernel_rfl) (by kernel_rfl) ((HS.out _).2 (HW.out ▸ (More.refl _).drew)) ?_
  iterate 3 (refine wpOrd_take rfl (by kernel_rfl) (fun K hK => ?_); go_simp; refine hK _ _ ?_; clear hK K)
  refine wpOrd_busy rfl (by kernel_rfl) (fun K hK => ?_); go_simp; refine hK _ _ ((HS.out _).2 (HW.out ▸ (by repeat (first | exact More.refl _ | apply More.drew | apply More.alloc)))) ?_; clear hK K
  refine wpOrd_busy rfl (by kernel_rfl) (fun K hK => ?_); go_simp
  refine (Hcreg.out _ _ _ (by go_simp)).mono ?_
  rintro e w1 ⟨rfl, m1⟩
  go_simp
  have Hm1 : Hid (More W w1) := HW.out ▸ More.trans (by repeat (first | exact More.refl _ | apply More.drew | apply More.alloc)) m1
  clear m1
  refine hK _ _ ((HS.out _).2 Hm1.out) ?_; clear hK K
  refine wpOrd_move rfl rfl (by kernel_rfl) (fun K hK => ?_); go_simp; refine hK _ _ ?_; clear hK K
  iterate 3 (refine wpOrd_take rfl (by kernel_rfl) (fun K hK => ?_); go_simp; refine hK _ _ ?_; clear hK K)
  refine wpOrd_busy rfl (by kernel_rfl) (fun K hK => ?_); go_simp
  refine (Hcrgn.out _).mono ?_
  rintro e w2 ⟨rfl, m2⟩
  go_simp
  have Hm2 : Hid (More W w2) := Hm1.out.trans m2
  clear m2
  refine hK _ _ ((HS.out _).2 Hm2.out) ?_; clear hK K
  refine wpOrd_pickT rfl rfl (by kernel_rfl) rfl (fun K hK => ?_); go_simp; refine hK _ _ ?_; clear hK K
  refine wpOrd_move rfl rfl (by kernel_rfl) (fun K hK => ?_); go_simp; refine hK _ _ ?_; clear hK K
  iterate 9 (refine wpOrd_take rfl (by kernel_rfl) (fun K hK => ?_); go_simp; refine hK _ _ ?_; clear hK K)
  refine wpOrd_busy rfl (by kernel_rfl) (fun K hK => ?_); go_simp
  refine (Hcwrd.out _).mono ?_
  rintro e w3 ⟨rfl, m3⟩
  go_simp
  have Hm3 : Hid (More W w3) := Hm2.out.trans m3
  clear m3
  refine hK _ _ ((HS.out _).2 Hm3.out) ?_; clear hK K
  refine wpOrd_busy rfl (by kernel_rfl) (fun K hK => ?_); go_simp
  refine (lay_below_calls n nw _).mono ?_
  rintro e w4 ⟨r, rfl, hr, m4⟩
  have Hr : Hid (r = true ↔ Blw n nw) := hr
  clear hr
  go_simp
  have Hm4 : Hid (More W w4) := Hm3.out.trans m4
  clear m4
  refine hK _ _ ((HS.out _).2 Hm4.out) ?_; clear hK K
  refine wpOrd_pickT rfl rfl (by kernel_rfl) rfl (fun K hK => ?_); go_simp; refine hK _ _ ?_; clear hK K
  refine wpOrd_assign rfl rfl (by kernel_rfl) (fun K hK => ?_); go_simp; refine hK _ _ ?_; clear hK K
  refine wpOrd_done ?_
  go_wp2
  go_ret
  exact ⟨r, rfl, Hr.out, Hw.out.trans Hm4.out⟩
/-- The fields that are not named are 0. -/
def NamedOk (op a b c n : Int) : Prop :=
 if op = 1 then b = 0 ∧ c = 0
 else if op = 2 then c = 0 ∧ n = 0
 else if op = 3 then True
 else if op = 4 then True
 else if op = 5 then b = 0
 else if op = 6 then b = 0
 else if op = 7 then a = 0 ∧ b = 0 ∧ c = 0
 else if op = 8 then True
 else if op = 9 then b = 0 ∧ c = 0 ∧ n = 0
 else if op = 10 then c = 0
 else if op = 11 then b = 0 ∧ c = 0
 else if op = 12 then a = 0 ∧ b = 0 ∧ c = 0 ∧ n = 0
 else n = 0

theorem named_1 (a b c n : Int) (w : World) :
  Calls Try.prog 84 #[.agg #[.int .i64 1, .int .i64 a, .int .i64 b, .int .i64 c, .int .i64 n]] w fun e w' => e = .returned (.agg #[.int .i64 1, .int .i64 a, .int .i64 0, .int .i64 0, .int .i64 n]) ∧ More w w' := by
 go_enter Try.func84, Try.ntmps84
 go_wp2
 exact bodyPost_ret (by simp [results, Try.results84, go_sem]) rfl ⟨rfl, ((More.refl _).alloc _ _).alloc _ _⟩

theorem named_2 (a b c n : Int) (w : World) :
  Calls Try.prog 84 #[.agg #[.int .i64 2, .int .i64 a, .int .i64 b, .int .i64 c, .int .i64 n]] w fun e w' => e = .returned (.agg #[.int .i64 2, .int .i64 a, .int .i64 b, .int .i64 0, .int .i64 0]) ∧ More w w' := by
 go_enter Try.func84, Try.ntmps84
 go_wp2
 exact bodyPost_ret (by simp [results, Try.results84, go_sem]) rfl ⟨rfl, ((More.refl _).alloc _ _).alloc _ _⟩

theorem named_3 (a b c n : Int) (w : World) :
  Calls Try.prog 84 #[.agg #[.int .i64 3, .int .i64 a, .int .i64 b, .int .i64 c, .int .i64 n]] w fun e w' => e = .returned (.agg #[.int .i64 3, .int .i64 a, .int .i64 b, .int .i64 c, .int .i64 n]) ∧ More w w' := by
 go_enter Try.func84, Try.ntmps84
 go_wp2
 exact bodyPost_ret (by simp [results, Try.results84, go_sem]) rfl ⟨rfl, ((More.refl _).alloc _ _).alloc _ _⟩

theorem named_4 (a b c n : Int) (w : World) :
  Calls Try.prog 84 #[.agg #[.int .i64 4, .int .i64 a, .int .i64 b, .int .i64 c, .int .i64 n]] w fun e w' => e = .returned (.agg #[.int .i64 4, .int .i64 a, .int .i64 b, .int .i64 c, .int .i64 n]) ∧ More w w' := by
 go_enter Try.func84, Try.ntmps84
 go_wp2
 exact bodyPost_ret (by simp [results, Try.results84, go_sem]) rfl ⟨rfl, ((More.refl _).alloc _ _).alloc _ _⟩

theorem named_5 (a b c n : Int) (w : World) :
  Calls Try.prog 84 #[.agg #[.int .i64 5, .int .i64 a, .int .i64 b, .int .i64 c, .int .i64 n]] w fun e w' => e = .returned (.agg #[.int .i64 5, .int .i64 a, .int .i64 0, .int .i64 c, .int .i64 n]) ∧ More w w' := by
 go_enter Try.func84, Try.ntmps84
 go_wp2
 exact bodyPost_ret (by simp [results, Try.results84, go_sem]) rfl ⟨rfl, ((More.refl _).alloc _ _).alloc _ _⟩

theorem named_6 (a b c n : Int) (w : World) :
  Calls Try.prog 84 #[.agg #[.int .i64 6, .int .i64 a, .int .i64 b, .int .i64 c, .int .i64 n]] w fun e w' => e = .returned (.agg #[.int .i64 6, .int .i64 a, .int .i64 0, .int .i64 c, .int .i64 n]) ∧ More w w' := by
 go_enter Try.func84, Try.ntmps84
 go_wp2
 exact bodyPost_ret (by simp [results, Try.results84, go_sem]) rfl ⟨rfl, ((More.refl _).alloc _ _).alloc _ _⟩

theorem named_7 (a b c n : Int) (w : World) :
  Calls Try.prog 84 #[.agg #[.int .i64 7, .int .i64 a, .int .i64 b, .int .i64 c, .int .i64 n]] w fun e w' => e = .returned (.agg #[.int .i64 7, .int .i64 0, .int .i64 0, .int .i64 0, .int .i64 n]) ∧ More w w' := by
 go_enter Try.func84, Try.ntmps84
 go_wp2
 exact bodyPost_ret (by simp [results, Try.results84, go_sem]) rfl ⟨rfl, ((More.refl _).alloc _ _).alloc _ _⟩

theorem named_8 (a b c n : Int) (w : World) :
  Calls Try.prog 84 #[.agg #[.int .i64 8, .int .i64 a, .int .i64 b, .int .i64 c, .int .i64 n]] w fun e w' => e = .returned (.agg #[.int .i64 8, .int .i64 a, .int .i64 b, .int .i64 c, .int .i64 n]) ∧ More w w' := by
 go_enter Try.func84, Try.ntmps84
 go_wp2
 exact bodyPost_ret (by simp [results, Try.results84, go_sem]) rfl ⟨rfl, ((More.refl _).alloc _ _).alloc _ _⟩

theorem named_9 (a b c n : Int) (w : World) :
  Calls Try.prog 84 #[.agg #[.int .i64 9, .int .i64 a, .int .i64 b, .int .i64 c, .int .i64 n]] w fun e w' => e = .returned (.agg #[.int .i64 9, .int .i64 a, .int .i64 0, .int .i64 0, .int .i64 0]) ∧ More w w' := by
 go_enter Try.func84, Try.ntmps84
 go_wp2
 exact bodyPost_ret (by simp [results, Try.results84, go_sem]) rfl ⟨rfl, ((More.refl _).alloc _ _).alloc _ _⟩

theorem named_10 (a b c n : Int) (w : World) :
  Calls Try.prog 84 #[.agg #[.int .i64 10, .int .i64 a, .int .i64 b, .int .i64 c, .int .i64 n]] w fun e w' => e = .returned (.agg #[.int .i64 10, .int .i64 a, .int .i64 b, .int .i64 0, .int .i64 n]) ∧ More w w' := by
 go_enter Try.func84, Try.ntmps84
 go_wp2
 exact bodyPost_ret (by simp [results, Try.results84, go_sem]) rfl ⟨rfl, ((More.refl _).alloc _ _).alloc _ _⟩

theorem named_11 (a b c n : Int) (w : World) :
  Calls Try.prog 84 #[.agg #[.int .i64 11, .int .i64 a, .int .i64 b, .int .i64 c, .int .i64 n]] w fun e w' => e = .returned (.agg #[.int .i64 11, .int .i64 a, .int .i64 0, .int .i64 0, .int .i64 n]) ∧ More w w' := by
 go_enter Try.func84, Try.ntmps84
 go_wp2
 exact bodyPost_ret (by simp [results, Try.results84, go_sem]) rfl ⟨rfl, ((More.refl _).alloc _ _).alloc _ _⟩

theorem named_12 (a b c n : Int) (w : World) :
  Calls Try.prog 84 #[.agg #[.int .i64 12, .int .i64 a, .int .i64 b, .int .i64 c, .int .i64 n]] w fun e w' => e = .returned (.agg #[.int .i64 12, .int .i64 0, .int .i64 0, .int .i64 0, .int .i64 0]) ∧ More w w' := by
 go_enter Try.func84, Try.ntmps84
 go_wp2
 exact bodyPost_ret (by simp [results, Try.results84, go_sem]) rfl ⟨rfl, ((More.refl _).alloc _ _).alloc _ _⟩

theorem named_else (op a b c n : Int) (h1 : ¬ op = 1) (h2 : ¬ op = 2) (h3 : ¬ op = 3) (h4 : ¬ op = 4) (h5 : ¬ op = 5) (h6 : ¬ op = 6) (h7 : ¬ op = 7) (h8 : ¬ op = 8) (h9 : ¬ op = 9) (h10 : ¬ op = 10) (h11 : ¬ op = 11) (h12 : ¬ op = 12) (w : World) :
  Calls Try.prog 84 #[.agg #[.int .i64 op, .int .i64 a, .int .i64 b, .int .i64 c, .int .i64 n]] w fun e w' => e = .returned (.agg #[.int .i64 op, .int .i64 a, .int .i64 b, .int .i64 c, .int .i64 0]) ∧ More w w' := by
 go_enter Try.func84, Try.ntmps84
 go_wp2
 exact bodyPost_ret (by simp [results, Try.results84, go_sem]) rfl ⟨rfl, ((More.refl _).alloc _ _).alloc _ _⟩

/-- The instruction with its named fields alone is the same one just if the others are 0. -/
theorem named_calls (op a b c n : Int) (w : World) :
  Calls Try.prog 84 #[.agg #[.int .i64 op, .int .i64 a, .int .i64 b, .int .i64 c, .int .i64 n]] w fun e w' =>
   ∃ a' b' c' n' : Int, e = .returned (.agg #[.int .i64 op, .int .i64 a', .int .i64 b', .int .i64 c', .int .i64 n']) ∧ ((a = a' ∧ b = b' ∧ c = c' ∧ n = n') ↔ NamedOk op a b c n) ∧ More w w' := by
 by_cases h1 : op = 1
 ·subst h1
  refine (named_1 a b c n w).mono fun e w' h => ⟨a, 0, 0, n, h.1, ?_, h.2⟩
  unfold NamedOk; simp
 by_cases h2 : op = 2
 ·subst h2
  refine (named_2 a b c n w).mono fun e w' h => ⟨a, b, 0, 0, h.1, ?_, h.2⟩
  unfold NamedOk; simp
 by_cases h3 : op = 3
 ·subst h3
  refine (named_3 a b c n w).mono fun e w' h => ⟨a, b, c, n, h.1, ?_, h.2⟩
  unfold NamedOk; simp
 by_cases h4 : op = 4
 ·subst h4
  refine (named_4 a b c n w).mono fun e w' h => ⟨a, b, c, n, h.1, ?_, h.2⟩
  unfold NamedOk; simp
 by_cases h5 : op = 5
 ·subst h5
  refine (named_5 a b c n w).mono fun e w' h => ⟨a, 0, c, n, h.1, ?_, h.2⟩
  unfold NamedOk; simp
 by_cases h6 : op = 6
 ·subst h6
  refine (named_6 a b c n w).mono fun e w' h => ⟨a, 0, c, n, h.1, ?_, h.2⟩
  unfold NamedOk; simp
 by_cases h7 : op = 7
 ·subst h7
  refine (named_7 a b c n w).mono fun e w' h => ⟨0, 0, 0, n, h.1, ?_, h.2⟩
  unfold NamedOk; simp
 by_cases h8 : op = 8
 ·subst h8
  refine (named_8 a b c n w).mono fun e w' h => ⟨a, b, c, n, h.1, ?_, h.2⟩
  unfold NamedOk; simp
 by_cases h9 : op = 9
 ·subst h9
  refine (named_9 a b c n w).mono fun e w' h => ⟨a, 0, 0, 0, h.1, ?_, h.2⟩
  unfold NamedOk; simp
 by_cases h10 : op = 10
 ·subst h10
  refine (named_10 a b c n w).mono fun e w' h => ⟨a, b, 0, n, h.1, ?_, h.2⟩
  unfold NamedOk; simp
 by_cases h11 : op = 11
 ·subst h11
  refine (named_11 a b c n w).mono fun e w' h => ⟨a, 0, 0, n, h.1, ?_, h.2⟩
  unfold NamedOk; simp
 by_cases h12 : op = 12
 ·subst h12
  refine (named_12 a b c n w).mono fun e w' h => ⟨0, 0, 0, 0, h.1, ?_, h.2⟩
  unfold NamedOk; simp
 refine (named_else op a b c n h1 h2 h3 h4 h5 h6 h7 h8 h9 h10 h11 h12 w).mono fun e w' h => ⟨a, b, c, 0, h.1, ?_, h.2⟩
 unfold NamedOk
 rw [if_neg h1, if_neg h2, if_neg h3, if_neg h4, if_neg h5, if_neg h6, if_neg h7, if_neg h8, if_neg h9, if_neg h10, if_neg h11, if_neg h12]
 simp
theorem ins_iff (rl : Nat) (log : Nat → Int) (cl : Nat) (regs op a b c n : Int) : InsOk rl log cl regs ⟨op, a, b, c, n⟩ ↔ NamedOk op a b c n ∧ FieldsOk rl log cl regs op a b c n := by
 unfold InsOk NamedOk FieldsOk Btw
 dsimp only
 by_cases h1 : op = 1
 ·rw [if_pos h1, if_pos h1, if_pos h1]; exact ⟨fun h => ⟨⟨h.2.1, h.2.2⟩, h.1⟩, fun h => ⟨h.2, h.1.1, h.1.2⟩⟩
 rw [if_neg h1, if_neg h1, if_neg h1]
 by_cases h2 : op = 2
 ·rw [if_pos h2, if_pos h2, if_pos h2]; exact ⟨fun h => ⟨⟨h.2.2.1, h.2.2.2⟩, h.1, h.2.1⟩, fun h => ⟨h.2.1, h.2.2, h.1.1, h.1.2⟩⟩
 rw [if_neg h2, if_neg h2, if_neg h2]
 by_cases h3 : op = 3
 ·rw [if_pos h3, if_pos h3, if_pos h3]; exact ⟨fun h => ⟨trivial, ⟨h.1, h.2.1⟩, h.2.2⟩, fun h => ⟨h.2.1.1, h.2.1.2, h.2.2⟩⟩
 rw [if_neg h3, if_neg h3, if_neg h3]
 by_cases h4 : op = 4
 ·rw [if_pos h4, if_pos h4, if_pos h4]; exact ⟨fun h => ⟨trivial, ⟨h.1, h.2.1⟩, h.2.2⟩, fun h => ⟨h.2.1.1, h.2.1.2, h.2.2⟩⟩
 rw [if_neg h4, if_neg h4, if_neg h4]
 by_cases h5 : op = 5
 ·rw [if_pos h5, if_pos h5, if_pos h5]; exact ⟨fun h => ⟨h.2.1, h.1, h.2.2.1, h.2.2.2⟩, fun h => ⟨h.2.1, h.1, h.2.2.1, h.2.2.2⟩⟩
 rw [if_neg h5, if_neg h5, if_neg h5]
 by_cases h6 : op = 6
 ·rw [if_pos h6, if_pos h6, if_pos h6]; exact ⟨fun h => ⟨h.2.1, h.1, h.2.2.1, h.2.2.2⟩, fun h => ⟨h.2.1, h.1, h.2.2.1, h.2.2.2⟩⟩
 rw [if_neg h6, if_neg h6, if_neg h6]
 by_cases h7 : op = 7
 ·rw [if_pos h7, if_pos h7, if_pos h7]; exact ⟨fun h => ⟨⟨h.1, h.2.1, h.2.2.1⟩, h.2.2.2⟩, fun h => ⟨h.1.1, h.1.2.1, h.1.2.2, h.2⟩⟩
 rw [if_neg h7, if_neg h7, if_neg h7]
 by_cases h8 : op = 8
 ·rw [if_pos h8, if_pos h8, if_pos h8]; exact ⟨fun h => ⟨trivial, ⟨h.1, h.2.1⟩, h.2.2.1, h.2.2.2⟩, fun h => ⟨h.2.1.1, h.2.1.2, h.2.2.1, h.2.2.2⟩⟩
 rw [if_neg h8, if_neg h8, if_neg h8]
 by_cases h9 : op = 9
 ·rw [if_pos h9, if_pos h9, if_pos h9]; exact ⟨fun h => ⟨⟨h.2.1, h.2.2.1, h.2.2.2⟩, h.1⟩, fun h => ⟨h.2, h.1.1, h.1.2.1, h.1.2.2⟩⟩
 rw [if_neg h9, if_neg h9, if_neg h9]
 by_cases h10 : op = 10
 ·rw [if_pos h10, if_pos h10, if_pos h10]; exact ⟨fun h => ⟨h.2.2, h.1, h.2.1⟩, fun h => ⟨h.2.1, h.2.2, h.1⟩⟩
 rw [if_neg h10, if_neg h10, if_neg h10]
 by_cases h11 : op = 11
 ·rw [if_pos h11, if_pos h11, if_pos h11]; exact ⟨fun h => ⟨⟨h.2.1, h.2.2.1⟩, h.1, h.2.2.2.1, h.2.2.2.2⟩, fun h => ⟨h.2.1, h.1.1, h.1.2, h.2.2.1, h.2.2.2⟩⟩
 rw [if_neg h11, if_neg h11, if_neg h11]
 by_cases h12 : op = 12
 ·rw [if_pos h12, if_pos h12, if_pos h12]; exact ⟨fun h => ⟨h, trivial⟩, fun h => h.1⟩
 rw [if_neg h12, if_neg h12, if_neg h12]
 exact ⟨fun h => ⟨h.2.2.2.2, h.1, h.2.1, h.2.2.1, h.2.2.2.1⟩, fun h => ⟨h.2.1, h.2.2.1, h.2.2.2.1, h.2.2.2.2, h.1⟩⟩

theorem fields_5 (ra : Option Addr) (rl rc : Nat) (ca : Option Addr) (cl cc : Nat) (code regs : Int) (a b c n : Int) (rb ro : Nat) (log : Nat → Int) (sec : Nat → Bool) (w : World)
  (hra : 0 < rl → ra = some ⟨rb, ro, none⟩) (hr : RegsAt w rb ro rl log sec) (hok : RegionsOk rl log) :
  Calls Try.prog 85 #[.agg #[.slice ra rl rc, .slice ca cl cc, .int .i64 code, .int .i64 regs], .agg #[.int .i64 5, .int .i64 a, .int .i64 b, .int .i64 c, .int .i64 n]] w (Says (Reg regs a ∧ Rgn rl c ∧ Wrd log c n) w) := by
 by_cases hA : Reg regs a
 ·by_cases hC : Rgn rl c
  ·have h0 := hC.1
   have h1 := hC.2
   obtain rfl := hra (by omega)
   have hk : c.toNat < rl := by omega
   refine (fields_56_all 5 (by decide) rb ro rl rc ca cl cc code regs a b c n (log c.toNat) (wordsI (log c.toNat)) (sec c.toNat) w h0 h1 (hr _ hk).1 (hr _ hk).2
    (fun g cp w h => (registers1 _ rl rc ca cl cc code regs g cp a w h).mono fun _ _ s => s.is_yes hA)
    (fun w => (region_calls _ rl rc ca cl cc code regs c w).mono fun _ _ s => s.is_yes hC)
    (fun w => words_calls _ (hok.2 _ hk).1 (hok.2 _ hk).2 _ w)).mono ?_
   rintro e w' ⟨r, rfl, h, m⟩
   exact ⟨r, rfl, h.trans ⟨fun h => ⟨hA, hC, h⟩, fun h => h.2.2⟩, m⟩
  ·refine (fields_56_norgn 5 (by decide) ra rl rc ca cl cc code regs a b c n w
    (fun g cp w h => (registers1 _ rl rc ca cl cc code regs g cp a w h).mono fun _ _ s => s.is_yes hA)
    (fun w => (region_calls _ rl rc ca cl cc code regs c w).mono fun _ _ s => s.is_no hC)).mono ?_
   rintro e w' ⟨rfl, m⟩
   exact Says.no (fun h => hC h.2.1) m
 ·refine (fields_56_noreg 5 (by decide) ra rl rc ca cl cc code regs a b c n w
   (fun g cp w h => (registers1 _ rl rc ca cl cc code regs g cp a w h).mono fun _ _ s => s.is_no hA)).mono ?_
  rintro e w' ⟨rfl, m⟩
  exact Says.no (fun h => hA h.1) m

theorem fields_6 (ra : Option Addr) (rl rc : Nat) (ca : Option Addr) (cl cc : Nat) (code regs : Int) (a b c n : Int) (rb ro : Nat) (log : Nat → Int) (sec : Nat → Bool) (w : World)
  (hra : 0 < rl → ra = some ⟨rb, ro, none⟩) (hr : RegsAt w rb ro rl log sec) (hok : RegionsOk rl log) :
  Calls Try.prog 85 #[.agg #[.slice ra rl rc, .slice ca cl cc, .int .i64 code, .int .i64 regs], .agg #[.int .i64 6, .int .i64 a, .int .i64 b, .int .i64 c, .int .i64 n]] w (Says (Reg regs a ∧ Rgn rl c ∧ Wrd log c n) w) := by
 by_cases hA : Reg regs a
 ·by_cases hC : Rgn rl c
  ·have h0 := hC.1
   have h1 := hC.2
   obtain rfl := hra (by omega)
   have hk : c.toNat < rl := by omega
   refine (fields_56_all 6 (by decide) rb ro rl rc ca cl cc code regs a b c n (log c.toNat) (wordsI (log c.toNat)) (sec c.toNat) w h0 h1 (hr _ hk).1 (hr _ hk).2
    (fun g cp w h => (registers1 _ rl rc ca cl cc code regs g cp a w h).mono fun _ _ s => s.is_yes hA)
    (fun w => (region_calls _ rl rc ca cl cc code regs c w).mono fun _ _ s => s.is_yes hC)
    (fun w => words_calls _ (hok.2 _ hk).1 (hok.2 _ hk).2 _ w)).mono ?_
   rintro e w' ⟨r, rfl, h, m⟩
   exact ⟨r, rfl, h.trans ⟨fun h => ⟨hA, hC, h⟩, fun h => h.2.2⟩, m⟩
  ·refine (fields_56_norgn 6 (by decide) ra rl rc ca cl cc code regs a b c n w
    (fun g cp w h => (registers1 _ rl rc ca cl cc code regs g cp a w h).mono fun _ _ s => s.is_yes hA)
    (fun w => (region_calls _ rl rc ca cl cc code regs c w).mono fun _ _ s => s.is_no hC)).mono ?_
   rintro e w' ⟨rfl, m⟩
   exact Says.no (fun h => hC h.2.1) m
 ·refine (fields_56_noreg 6 (by decide) ra rl rc ca cl cc code regs a b c n w
   (fun g cp w h => (registers1 _ rl rc ca cl cc code regs g cp a w h).mono fun _ _ s => s.is_no hA)).mono ?_
  rintro e w' ⟨rfl, m⟩
  exact Says.no (fun h => hA h.1) m

theorem fields_calls (ra : Option Addr) (rl rc : Nat) (ca : Option Addr) (cl cc : Nat) (code regs : Int) (op a b c n : Int) (rb ro : Nat) (log : Nat → Int) (sec : Nat → Bool) (w : World)
  (hra : 0 < rl → ra = some ⟨rb, ro, none⟩) (hr : RegsAt w rb ro rl log sec) (hok : RegionsOk rl log) :
  Calls Try.prog 85 #[.agg #[.slice ra rl rc, .slice ca cl cc, .int .i64 code, .int .i64 regs], .agg #[.int .i64 op, .int .i64 a, .int .i64 b, .int .i64 c, .int .i64 n]] w (Says (FieldsOk rl log cl regs op a b c n) w) := by
 unfold FieldsOk
 by_cases h1 : op = 1
 ·rw [if_pos h1]; subst h1; exact fields_1 ra rl rc ca cl cc code regs a b c n w
 rw [if_neg h1]
 by_cases h2 : op = 2
 ·rw [if_pos h2]; subst h2; exact fields_2 ra rl rc ca cl cc code regs a b c n w
 rw [if_neg h2]
 by_cases h3 : op = 3
 ·rw [if_pos h3]; subst h3; exact fields_3 ra rl rc ca cl cc code regs a b c n w
 rw [if_neg h3]
 by_cases h4 : op = 4
 ·rw [if_pos h4]; subst h4; exact fields_4 ra rl rc ca cl cc code regs a b c n w
 rw [if_neg h4]
 by_cases h5 : op = 5
 ·rw [if_pos h5]; subst h5; exact fields_5 ra rl rc ca cl cc code regs a b c n rb ro log sec w hra hr hok
 rw [if_neg h5]
 by_cases h6 : op = 6
 ·rw [if_pos h6]; subst h6; exact fields_6 ra rl rc ca cl cc code regs a b c n rb ro log sec w hra hr hok
 rw [if_neg h6]
 by_cases h7 : op = 7
 ·rw [if_pos h7]; subst h7; exact fields_7 ra rl rc ca cl cc code regs a b c n w
 rw [if_neg h7]
 by_cases h8 : op = 8
 ·rw [if_pos h8]; subst h8; exact fields_8 ra rl rc ca cl cc code regs a b c n w
 rw [if_neg h8]
 by_cases h9 : op = 9
 ·rw [if_pos h9]; subst h9; exact fields_9 ra rl rc ca cl cc code regs a b c n w
 rw [if_neg h9]
 by_cases h10 : op = 10
 ·rw [if_pos h10]; subst h10; exact fields_10 ra rl rc ca cl cc code regs a b c n w
 rw [if_neg h10]
 by_cases h11 : op = 11
 ·rw [if_pos h11]; subst h11; exact fields_11 ra rl rc ca cl cc code regs a b c n w
 rw [if_neg h11]
 by_cases h12 : op = 12
 ·rw [if_pos h12]; subst h12; exact fields_12 ra rl rc ca cl cc code regs a b c n w
 rw [if_neg h12]
 exact fields_else ra rl rc ca cl cc code regs op a b c n h1 h2 h3 h4 h5 h6 h7 h8 h9 h10 h11 h12 w
set_option maxHeartbeats 1000000 in
theorem code_calls (ra : Option Addr) (rl rc : Nat) (ca : Option Addr) (cl cc : Nat) (code regs : Int) (rb ro cb co : Nat) (log : Nat → Int) (sec : Nat → Bool) (ins : Nat → Ins) (w : World) (most : Nat) (hcode : code = most) (hmost : most ≤ 8000)
  (hra : 0 < rl → ra = some ⟨rb, ro, none⟩) (hr : RegsAt w rb ro rl log sec) (hok : RegionsOk rl log) (hca : 0 < cl → ca = some ⟨cb, co, none⟩) (hc : CodeAt w cb co cl ins) :
  Calls Try.prog 74 #[.agg #[.slice ra rl rc, .slice ca cl cc, .int .i64 code, .int .i64 regs]] w (Says (CodeOk rl log cl ins most regs) w) := by
 have Hcd : Hid (code = most ∧ most ≤ 8000) := ⟨hcode, hmost⟩
 have Hr : Hid ((0 < rl → ra = some ⟨rb, ro, none⟩) ∧ RegsAt w rb ro rl log sec ∧ RegionsOk rl log) := ⟨hra, hr, hok⟩
 have Hc : Hid ((0 < cl → ca = some ⟨cb, co, none⟩) ∧ CodeAt w cb co cl ins) := ⟨hca, hc⟩
 clear hcode hmost hra hr hok hca hc
 by_cases h1 : (cl : Int) < 1
 ·go_enter Try.func74, Try.ntmps74
  go_wp2
  go_ret
  exact Says.no (fun h => by have := h.1; omega) ((More.refl _).alloc _ _)
 by_cases h2 : code < (cl : Int)
 ·go_enter Try.func74, Try.ntmps74
  go_wp2
  go_ret
  exact Says.no (fun h => by have := h.2.1; have := Hcd.out.1; omega) ((More.refl _).alloc _ _)
 have Hl : Hid (1 ≤ cl ∧ cl ≤ most) := ⟨by omega, by have := Hcd.out.1; omega⟩
 go_enter Try.func74, Try.ntmps74
 go_wp2
 go_loopg [23] cl (fun g i wr => ∃ k : Nat, k + g = cl ∧ i = .int .i64 k ∧ (∀ j, j < k → InsOk rl log cl regs (ins j)) ∧ More (w.alloc (.cells #[.slice ra rl rc, .slice ca cl cc, .int .i64 code, .int .i64 regs] 108)) wr)
 case atStart => exact ⟨0, by omega, rfl, fun j hj => by omega, More.refl _⟩
 case round =>
  obtain ⟨k, hkg, rfl, hin, m⟩ := hrel
  have Hm : Hid (More (w.alloc (.cells #[.slice ra rl rc, .slice ca cl cc, .int .i64 code, .int .i64 regs] 108)) wr ∧ ∀ j, j < k → InsOk rl log cl regs (ins j)) := ⟨m, hin⟩
  clear m hin
  cases gk with
  | zero =>
   obtain rfl : k = cl := by omega
   go_wp2
   go_ret
   exact Says.yes ⟨Hl.out.1, Hl.out.2, Hm.out.2⟩ (((More.refl _).alloc _ _).trans Hm.out.1)
  | succ g =>
   have hk : k < cl := by omega
   have hk' : (k : Int) < (cl : Int) := by omega
   obtain rfl := Hc.out.1 (by omega)
   have Hww : Hid (More w wr) := ((More.refl _).alloc _ _).trans Hm.out.1
   have hcell := (Hc.out.2.more Hww.out) k hk
   have Hrr : Hid (RegsAt wr rb ro rl log sec) := Hr.out.2.1.more Hww.out
   cases hI : ins k with
   | mk op a b c n =>
   rw [hI] at hcell
   have HI : Hid (ins k = ⟨op, a, b, c, n⟩) := hI
   clear hI
   obtain ⟨q0, q1, q2, q3, q4⟩ := hcell
   have e0 : wr.cell? ⟨w.heap.size, 0, none⟩ = some (.slice ra rl rc) := Hm.out.1.cell (by go_simp)
   have e1 : wr.cell? ⟨w.heap.size, 1, none⟩ = some (.slice (some ⟨cb, co, none⟩) cl cc) := Hm.out.1.cell (by go_simp)
   have e2 : wr.cell? ⟨w.heap.size, 2, none⟩ = some (.int .i64 code) := Hm.out.1.cell (by go_simp)
   have e3 : wr.cell? ⟨w.heap.size, 3, none⟩ = some (.int .i64 regs) := Hm.out.1.cell (by go_simp)
   obtain ⟨W, HW⟩ : ∃ W : World, Hid (W = wr.alloc (.cells #[.int .i64 op, .int .i64 a, .int .i64 b, .int .i64 c, .int .i64 n] 59)) := ⟨_, rfl⟩
   have HwW : Hid (More wr W) := HW.out ▸ ((More.refl _).alloc _ _)
   obtain ⟨S, HS⟩ : ∃ S : World → Prop, Hid (∀ w', S w' ↔ More W w') := ⟨fun w' => More W w', fun _ => Iff.rfl⟩
   have k0 : ∀ i : { w' // S w' }, i.val.cell? ⟨w.heap.size, 0, none⟩ = some (.slice ra rl rc) := fun i => ((HS.out _).1 i.property).cell (HwW.out.cell e0)
   have k1 : ∀ i : { w' // S w' }, i.val.cell? ⟨w.heap.size, 1, none⟩ = some (.slice (some ⟨cb, co, none⟩) cl cc) := fun i => ((HS.out _).1 i.property).cell (HwW.out.cell e1)
   have k2 : ∀ i : { w' // S w' }, i.val.cell? ⟨w.heap.size, 2, none⟩ = some (.int .i64 code) := fun i => ((HS.out _).1 i.property).cell (HwW.out.cell e2)
   have k3 : ∀ i : { w' // S w' }, i.val.cell? ⟨w.heap.size, 3, none⟩ = some (.int .i64 regs) := fun i => ((HS.out _).1 i.property).cell (HwW.out.cell e3)
   have d0 : ∀ i : { w' // S w' }, i.val.cell? ⟨wr.heap.size, 0, none⟩ = some (.int .i64 op) := fun i => ((HS.out _).1 i.property).cell (by rw [HW.out]; go_simp)
   have d1 : ∀ i : { w' // S w' }, i.val.cell? ⟨wr.heap.size, 1, none⟩ = some (.int .i64 a) := fun i => ((HS.out _).1 i.property).cell (by rw [HW.out]; go_simp)
   have d2 : ∀ i : { w' // S w' }, i.val.cell? ⟨wr.heap.size, 2, none⟩ = some (.int .i64 b) := fun i => ((HS.out _).1 i.property).cell (by rw [HW.out]; go_simp)
   have d3 : ∀ i : { w' // S w' }, i.val.cell? ⟨wr.heap.size, 3, none⟩ = some (.int .i64 c) := fun i => ((HS.out _).1 i.property).cell (by rw [HW.out]; go_simp)
   have d4 : ∀ i : { w' // S w' }, i.val.cell? ⟨wr.heap.size, 4, none⟩ = some (.int .i64 n) := fun i => ((HS.out _).1 i.property).cell (by rw [HW.out]; go_simp)
   have hne : Nonempty { w' // S w' } := ⟨⟨W, (HS.out _).2 (More.refl _)⟩⟩
   clear e0 e1 e2 e3
   go_wp2_with (fail)
   clear q0 q1 q2 q3 q4
   refine wp_region_ord (S := S) [(0, true), (1, true), (2, false), (3, true), (4, true), (5, true), (6, true), (7, false), (8, true), (9, true)] (by kernel_rfl) (by kernel_rfl) (by kernel_rfl) ((HS.out _).2 (HW.out ▸ (More.refl _).drew)) ?_
   iterate 2 (refine wpOrd_take rfl (by kernel_rfl) (fun K hK => ?_); go_simp; refine hK _ _ ?_; clear hK K)
   refine wpOrd_busy rfl (by kernel_rfl) (fun K hK => ?_); go_simp
   refine (named_calls op a b c n _).mono ?_
   rintro e w1 ⟨a', b', c', n', rfl, hnm, m1⟩
   have Hnm : Hid ((a = a' ∧ b = b' ∧ c = c' ∧ n = n') ↔ NamedOk op a b c n) := hnm
   have Hm1 : Hid (More W w1) := HW.out ▸ (More.trans (More.refl _).drew m1)
   clear hnm m1
   go_simp
   refine hK _ _ ((HS.out _).2 Hm1.out) ?_; clear hK K
   by_cases heq : a = a' ∧ b = b' ∧ c = c' ∧ n = n'
   ·have HN : Hid (NamedOk op a b c n) := Hnm.out.1 heq
    obtain ⟨rfl, rfl, rfl, rfl⟩ := heq
    clear Hnm
    refine wpOrd_take rfl (by kernel_rfl) (fun K hK => ?_); go_simp; refine hK _ _ ?_; clear hK K
    refine wpOrd_move rfl rfl (by kernel_rfl) (fun K hK => ?_); go_simp; refine hK _ _ ?_; clear hK K
    iterate 2 (refine wpOrd_take rfl (by kernel_rfl) (fun K hK => ?_); go_simp; refine hK _ _ ?_; clear hK K)
    refine wpOrd_busy rfl (by kernel_rfl) (fun K hK => ?_); go_simp
    refine (fields_calls ra rl rc _ cl cc code regs op a b c n rb ro log sec _ Hr.out.1 (Hrr.out.more (HwW.out.trans Hm1.out)) Hr.out.2.2).mono ?_
    rintro e w2 ⟨r2, rfl, hr2, m2⟩
    have Hm2 : Hid (More W w2) := Hm1.out.trans m2
    clear m2
    cases r2 with
    | false =>
     have HF : Hid (¬ FieldsOk rl log cl regs op a b c n) := fun h => by simpa using hr2.2 h
     clear hr2
     go_simp
     refine hK _ _ ((HS.out _).2 Hm2.out) ?_; clear hK K
     refine wpOrd_take rfl (by kernel_rfl) (fun K hK => ?_); go_simp; refine hK _ _ ?_; clear hK K
     refine wpOrd_pickF rfl rfl (by kernel_rfl) rfl (fun K hK => ?_); go_simp; refine hK _ _ ?_; clear hK K
     refine wpOrd_done ?_
     clear k0 k1 k2 k3 d0 d1 d2 d3 d4 hne
     go_wp2
     go_ret
     exact Says.no (fun h => HF.out ((ins_iff rl log cl regs op a b c n).1 (HI.out ▸ h.2.2 k hk)).2) ((Hww.out.trans HwW.out).trans Hm2.out)
    | true =>
     have HF : Hid (FieldsOk rl log cl regs op a b c n) := hr2.1 rfl
     clear hr2
     go_simp
     refine hK _ _ ((HS.out _).2 Hm2.out) ?_; clear hK K
     refine wpOrd_take rfl (by kernel_rfl) (fun K hK => ?_); go_simp; refine hK _ _ ?_; clear hK K
     refine wpOrd_pickF rfl rfl (by kernel_rfl) rfl (fun K hK => ?_); go_simp; refine hK _ _ ?_; clear hK K
     refine wpOrd_done ?_
     clear k0 k1 k2 k3 d0 d1 d2 d3 d4 hne
     go_wp2
     go_roundg g
     case measure => omega
     case rel =>
      refine ⟨k + 1, by omega, by first | rfl | (simp; unfold wrap64; have := Hl.out.2; have := Hcd.out.2; omega), fun j hj => ?_, (Hm.out.1.trans HwW.out).trans Hm2.out⟩
      by_cases e : j = k
      ·subst e; rw [HI.out]; exact (ins_iff rl log cl regs op a b c n).2 ⟨HN.out, HF.out⟩
      ·exact Hm.out.2 j (by omega)
   ·have HN : Hid (¬ NamedOk op a b c n) := fun h => heq (Hnm.out.2 h)
    clear Hnm
    have Hq : Hid (¬ (a = a' ∧ b = b' ∧ c = c' ∧ n = n')) := heq
    clear heq
    refine wpOrd_take rfl (by kernel_rfl) (fun K hK => ?_)
    go_simp
    refine ⟨.bool true, fun w9 _ => ?_, hK _ _ ?_⟩
    ·repeat' split
     all_goals first | rfl | exact absurd ⟨‹_›, ‹_›, ‹_›, ‹_›⟩ Hq.out
    clear hK K
    refine wpOrd_move rfl rfl (by kernel_rfl) (fun K hK => ?_); go_simp; refine hK _ _ ?_; clear hK K
    iterate 4 (refine wpOrd_pass rfl ((HS.out _).2 Hm1.out) (by kernel_rfl) (fun K hK => ?_); go_simp; refine hK _ _ ?_; clear hK K)
    refine wpOrd_pickT rfl rfl (by kernel_rfl) rfl (fun K hK => ?_); go_simp; refine hK _ _ ?_; clear hK K
    refine wpOrd_done ?_
    clear k0 k1 k2 k3 d0 d1 d2 d3 d4 hne
    go_wp2
    go_ret
    exact Says.no (fun h => HN.out ((ins_iff rl log cl regs op a b c n).1 (HI.out ▸ h.2.2 k hk)).1) ((Hww.out.trans HwW.out).trans Hm1.out)

theorem allowed_calls (ra : Option Addr) (rl rc : Nat) (ca : Option Addr) (cl cc : Nat) (code regs : Int) (rb ro cb co : Nat) (log : Nat → Int) (sec : Nat → Bool) (ins : Nat → Ins) (w : World) (most : Nat) (hcode : code = most) (hmost : most ≤ 8000)
  (hra : 0 < rl → ra = some ⟨rb, ro, none⟩) (hr : RegsAt w rb ro rl log sec) (hca : 0 < cl → ca = some ⟨cb, co, none⟩) (hc : CodeAt w cb co cl ins) :
  Calls Try.prog 59 #[.agg #[.slice ra rl rc, .slice ca cl cc, .int .i64 code, .int .i64 regs]] w (Says (RegionsOk rl log ∧ CodeOk rl log cl ins most regs) w) := by
 have Hcd : Hid (code = most ∧ most ≤ 8000) := ⟨hcode, hmost⟩
 have Hr : Hid ((0 < rl → ra = some ⟨rb, ro, none⟩) ∧ RegsAt w rb ro rl log sec) := ⟨hra, hr⟩
 have Hc : Hid ((0 < cl → ca = some ⟨cb, co, none⟩) ∧ CodeAt w cb co cl ins) := ⟨hca, hc⟩
 clear hcode hmost hra hr hca hc
 go_enter Try.func59, Try.ntmps59
 go_wp2_with (fail)
 refine (regions_calls ra rl rc ca cl cc code regs rb ro log sec _ Hr.out.1 (Hr.out.2.more ((More.refl _).alloc _ _))).mono ?_
 rintro e w1 ⟨r, rfl, h, m1⟩
 have e0 : w1.cell? ⟨w.heap.size, 0, none⟩ = some (.slice ra rl rc) := m1.cell (by go_simp)
 have e1 : w1.cell? ⟨w.heap.size, 1, none⟩ = some (.slice ca cl cc) := m1.cell (by go_simp)
 have e2 : w1.cell? ⟨w.heap.size, 2, none⟩ = some (.int .i64 code) := m1.cell (by go_simp)
 have e3 : w1.cell? ⟨w.heap.size, 3, none⟩ = some (.int .i64 regs) := m1.cell (by go_simp)
 have Hm : Hid (More w w1) := ((More.refl _).alloc _ _).trans m1
 clear m1
 cases r with
 | false =>
  have HA : Hid (¬ RegionsOk rl log) := fun k => by simpa using h.2 k
  clear h
  go_wp2
  go_ret
  exact Says.no (fun h => HA.out h.1) Hm.out
 | true =>
  have HA : Hid (RegionsOk rl log) := h.1 rfl
  clear h
  go_wp2_with (fail)
  refine (code_calls ra rl rc ca cl cc code regs rb ro cb co log sec ins _ most Hcd.out.1 Hcd.out.2 Hr.out.1 (Hr.out.2.more Hm.out) HA.out Hc.out.1 (Hc.out.2.more Hm.out)).mono ?_
  rintro e w2 ⟨r2, rfl, h2, m2⟩
  have H2 : Hid ((r2 = true ↔ CodeOk rl log cl ins most regs) ∧ More w1 w2) := ⟨h2, m2⟩
  clear h2 m2
  go_wp2
  go_ret
  exact ⟨r2, rfl, H2.out.1.trans ⟨fun h => ⟨HA.out, h⟩, fun h => h.2⟩, Hm.out.trans H2.out.2⟩

theorem may_calls (p : Prg) (l : Loc) (w : World) (h : PIn w p l) :
  Calls Try.prog 41 #[.agg #[.slice l.ra p.rl l.rc, .slice l.ca p.cl l.cc]] w (Says (p.Ok 200 8) w) := by
 have H : Hid (PIn w p l) := h
 clear h
 go_enter Try.func41, Try.ntmps41
 go_wp2_with (fail)
 have m0 : More w (w.alloc (.cells #[.slice l.ra p.rl l.rc, .slice l.ca p.cl l.cc] 25)) := (More.refl _).alloc _ _
 refine (allowed_calls l.ra p.rl l.rc l.ca p.cl l.cc 200 8 l.rb l.ro l.cb l.co p.log p.sec p.ins _ 200 rfl (by omega) H.out.hr (H.out.regs.more m0) H.out.hc (H.out.code.more m0)).mono ?_
 rintro e w1 ⟨r, rfl, h1, m1⟩
 have H1 : Hid ((r = true ↔ p.Ok 200 8) ∧ More w w1) := ⟨h1, m0.trans m1⟩
 clear h1 m1 m0
 go_wp2
 go_ret
 exact ⟨r, rfl, H1.out.1, H1.out.2⟩
end
section
open Go.RowKit
set_option linter.unusedSimpArgs false
set_option linter.unusedVariables false
set_option maxRecDepth 8000
theorem made_places (cl : Nat) (B : Nat) (w : World) (h : Blk w B (madeCells #[.int .i64 0, .bool false, .int .i64 0, .bool false, .int .i64 0, .bool false, .int .i64 0, .bool false, .int .i64 0, .bool false, .int .i64 0, .bool false, .int .i64 0, .bool false, .int .i64 0, .bool false, .bool false] (cl * 17)) 116) : PlS w B cl (fun _ => none) := by
 refine ⟨_, h, size_madeCells _ _, fun k j hk hj => ?_⟩
 rw [pv_none]
 unfold madeCells
 rw [Array.getElem?_map, Array.getElem?_range, if_pos (by omega)]
 have hm : (k * 17 + j) % 17 = j := by omega
 have hz : (#[.int .i64 0, .bool false, .int .i64 0, .bool false, .int .i64 0, .bool false, .int .i64 0, .bool false, .int .i64 0, .bool false, .int .i64 0, .bool false, .int .i64 0, .bool false, .int .i64 0, .bool false, .bool false] : Array Value).size = 17 := rfl
 simp only [Option.map_some]
 rw [hz, hm]
 rw [getElem!_pos _ j (by omega), Array.getElem?_eq_getElem (by omega)]
theorem info107m : ∃ i, Try.prog.info? 116 = some i ∧ i.zero = some (.agg #[.int .i64 0, .bool false, .int .i64 0, .bool false, .int .i64 0, .bool false, .int .i64 0, .bool false, .int .i64 0, .bool false, .int .i64 0, .bool false, .int .i64 0, .bool false, .int .i64 0, .bool false, .bool false]) ∧ i.size = 17 ∧ i.bytes = 136 := by
 have h : (Try.prog.info? 116).map (fun i => (i.zero, i.size, i.bytes)) = some (some (.agg #[.int .i64 0, .bool false, .int .i64 0, .bool false, .int .i64 0, .bool false, .int .i64 0, .bool false, .int .i64 0, .bool false, .int .i64 0, .bool false, .int .i64 0, .bool false, .int .i64 0, .bool false, .bool false]), 17, 136) := by kernel_rfl
 obtain ⟨i, h1, h2⟩ := Option.map_eq_some_iff.1 h
 simp only [Prod.mk.injEq] at h2
 exact ⟨i, h1, h2.1, h2.2.1, h2.2.2⟩
theorem run_make107 (cl : Nat) (h : cl ≤ 200) (w : World) : (Instr.makeSlice 88 (.int .i64 (cl : Int)) (.int .i64 (cl : Int))).run Try.prog w = .ok (.slice (some ⟨w.heap.size, 0, none⟩) cl cl) (w.alloc (.cells (madeCells #[.int .i64 0, .bool false, .int .i64 0, .bool false, .int .i64 0, .bool false, .int .i64 0, .bool false, .int .i64 0, .bool false, .int .i64 0, .bool false, .int .i64 0, .bool false, .int .i64 0, .bool false, .bool false] (cl * 17)) 116)) := by
 obtain ⟨i, h1, h2, h3, h4⟩ := info107m
 have := run_make (P := Try.prog) w 88 116 i (.agg #[.int .i64 0, .bool false, .int .i64 0, .bool false, .int .i64 0, .bool false, .int .i64 0, .bool false, .int .i64 0, .bool false, .int .i64 0, .bool false, .int .i64 0, .bool false, .int .i64 0, .bool false, .bool false]) Try.underlying88 h1 h2 .i64 .i64 cl cl (by omega) (Int.le_refl _) (by rw [h4]; omega) (by omega)
 rw [h3] at this
 simp only [Int.toNat_natCast] at this
 exact this
theorem info59s : (Try.prog.info? 90).map (·.size) = some 4 := by kernel_rfl

/-- Where Check stands ahead of the store of its checker. -/
structure ChB (w1 : World) (cl gM gB : Nat) (w' : World) : Prop where
 bM : Blk w' gM #[.slice none 0 0, .slice none 0 0, .slice none 0 0, .slice none 0 0] 90
 bB : Blk w' gB (madeCells #[.int .i64 0, .bool false, .int .i64 0, .bool false, .int .i64 0, .bool false, .int .i64 0, .bool false, .int .i64 0, .bool false, .int .i64 0, .bool false, .int .i64 0, .bool false, .int .i64 0, .bool false, .bool false] (cl * 17)) 116
 up : More w1 w'
 ltM : w1.heap.size ≤ gM
 ltB : w1.heap.size ≤ gB
 ne : gM ≠ gB

theorem check_form (p : Prg) (lo : Loc) (w : World) (hp : PIn w p lo) (hno : ¬ p.Ok 200 8) :
  Calls Try.prog 19 #[.agg #[.slice lo.ra p.rl lo.rc, .slice lo.ca p.cl lo.cc]] w fun e w' => e = .returned (.agg #[.int .i64 2, .int .i64 0]) ∧ More w w' := by
 have cm : Calls Try.prog 41 #[.agg #[.slice lo.ra p.rl lo.rc, .slice lo.ca p.cl lo.cc]] ((w.alloc (.cells #[.slice lo.ra p.rl lo.rc, .slice lo.ca p.cl lo.cc] 25)).alloc (.cells #[.int .i64 0, .int .i64 0] 28)) fun e w' => e = .returned (.bool false) ∧ More ((w.alloc (.cells #[.slice lo.ra p.rl lo.rc, .slice lo.ca p.cl lo.cc] 25)).alloc (.cells #[.int .i64 0, .int .i64 0] 28)) w' := by
  refine (may_calls p lo _ (hp.more (((More.refl _).alloc _ _).alloc _ _))).mono ?_
  rintro e w' ⟨r, rfl, hr, m⟩
  cases r with
  | false => exact ⟨rfl, m⟩
  | true => exact absurd (hr.1 rfl) hno
 clear hp hno
 go_enter Try.func19, Try.ntmps19
 go_wp2_with (fail)
 refine cm.mono ?_
 rintro e w1 ⟨rfl, m1⟩
 have HR : Hid (Blk w1 (w.heap.size + 1) #[.int .i64 0, .int .i64 0] 28 ∧ More w w1) := ⟨(by simpa using Blk.last (w.alloc (.cells #[.slice lo.ra p.rl lo.rc, .slice lo.ca p.cl lo.cc] 25)) #[.int .i64 0, .int .i64 0] 28 : Blk _ (w.heap.size + 1) _ _).more m1, (((More.refl _).alloc _ _).alloc _ _).trans m1⟩
 have t0 := HR.out.1.cell (j := 0) rfl
 have t1 := HR.out.1.cell (j := 1) rfl
 have u0 := HR.out.1.frozen 0
 have u1 := HR.out.1.frozen 1
 clear m1 cm
 go_wp2
 refine bodyPost_ret (by simp [results, Try.results19, go_sem, *]) rfl ⟨rfl, ?_⟩
 exact (HR.out.2.setCell (by dsimp only; omega) _).setCell (by dsimp only; omega) _

set_option maxHeartbeats 2000000 in
theorem check_ok_calls (p : Prg) (lo : Loc) (w : World) (hp : PIn w p lo) (hok : p.Ok 200 8) (hnr : ∀ i, i < p.cl → -9223372036854775808 ≤ (p.ins i).n ∧ (p.ins i).n ≤ 9223372036854775807) :
  Calls Try.prog 19 #[.agg #[.slice lo.ra p.rl lo.rc, .slice lo.ca p.cl lo.cc]] w fun e w' => ∃ l, Known p l ∧ e = .returned (.agg #[.int .i64 (checkK p l).1, .int .i64 (checkK p l).2]) ∧ More w w' := by
 suffices hP : ∀ P : Ending → World → Prop, (∀ l, Known p l → ∀ w', More w w' → P (.returned (.agg #[.int .i64 (checkK p l).1, .int .i64 (checkK p l).2])) w') → Calls Try.prog 19 #[.agg #[.slice lo.ra p.rl lo.rc, .slice lo.ca p.cl lo.cc]] w P from hP _ (fun l h1 w' h2 => ⟨l, h1, rfl, h2⟩)
 intro P hP0
 have HP : Hid (∀ l, Known p l → ∀ w', More w w' → P (.returned (.agg #[.int .i64 (checkK p l).1, .int .i64 (checkK p l).2])) w') := hP0
 clear hP0
 have H : Hid (PIn w p lo ∧ p.Ok 200 8 ∧ ∀ i, i < p.cl → -9223372036854775808 ≤ (p.ins i).n ∧ (p.ins i).n ≤ 9223372036854775807) := ⟨hp, hok, hnr⟩
 have cm : Calls Try.prog 41 #[.agg #[.slice lo.ra p.rl lo.rc, .slice lo.ca p.cl lo.cc]] ((w.alloc (.cells #[.slice lo.ra p.rl lo.rc, .slice lo.ca p.cl lo.cc] 25)).alloc (.cells #[.int .i64 0, .int .i64 0] 28)) fun e w' => e = .returned (.bool true) ∧ More ((w.alloc (.cells #[.slice lo.ra p.rl lo.rc, .slice lo.ca p.cl lo.cc] 25)).alloc (.cells #[.int .i64 0, .int .i64 0] 28)) w' := by
  refine (may_calls p lo _ (hp.more (((More.refl _).alloc _ _).alloc _ _))).mono ?_
  rintro e w' ⟨r, rfl, hr, m⟩
  cases r with
  | true => exact ⟨rfl, m⟩
  | false => exact absurd (hr.2 hok) (by simp)
 have hcl : p.cl ≤ 200 := hok.2.2.1
 clear hp hok hnr
 obtain ⟨cl, Hcl⟩ : ∃ x, Hid (p.cl = x) := ⟨_, rfl⟩
 rw [Hcl.out] at hcl cm ⊢
 have hi2 : ((cl : Int) ≤ 200) := by omega
 have hmk := run_make107 cl hcl
 obtain ⟨Zs, hZs⟩ : ∃ x, madeCells #[.int .i64 0, .bool false, .int .i64 0, .bool false, .int .i64 0, .bool false, .int .i64 0, .bool false, .int .i64 0, .bool false, .int .i64 0, .bool false, .int .i64 0, .bool false, .int .i64 0, .bool false, .bool false] (cl * 17) = x := ⟨_, rfl⟩
 have HZs : Hid (madeCells #[.int .i64 0, .bool false, .int .i64 0, .bool false, .int .i64 0, .bool false, .int .i64 0, .bool false, .int .i64 0, .bool false, .int .i64 0, .bool false, .int .i64 0, .bool false, .int .i64 0, .bool false, .bool false] (cl * 17) = Zs) := hZs
 rw [hZs] at hmk
 clear hZs
 obtain ⟨ra, Hra⟩ : ∃ x, Hid (lo.ra = x) := ⟨_, rfl⟩
 obtain ⟨rl, Hrl⟩ : ∃ x, Hid (p.rl = x) := ⟨_, rfl⟩
 obtain ⟨rc, Hrc⟩ : ∃ x, Hid (lo.rc = x) := ⟨_, rfl⟩
 obtain ⟨ca, Hca⟩ : ∃ x, Hid (lo.ca = x) := ⟨_, rfl⟩
 obtain ⟨cc, Hcc⟩ : ∃ x, Hid (lo.cc = x) := ⟨_, rfl⟩
 rw [Hra.out, Hrl.out, Hrc.out, Hca.out, Hcc.out] at cm ⊢
 go_enter Try.func19, Try.ntmps19
 go_wp2_with (fail)
 refine cm.mono ?_
 rintro e w1 ⟨rfl, m1⟩
 have HR : Hid (Blk w1 w.heap.size #[.slice ra rl rc, .slice ca cl cc] 25 ∧ Blk w1 (w.heap.size + 1) #[.int .i64 0, .int .i64 0] 28 ∧ More w w1) := ⟨((Blk.last _ _ _).alloc _ _).more m1, (by simpa using Blk.last (w.alloc (.cells #[.slice ra rl rc, .slice ca cl cc] 25)) #[.int .i64 0, .int .i64 0] 28 : Blk _ (w.heap.size + 1) _ _).more m1, (((More.refl _).alloc _ _).alloc _ _).trans m1⟩
 have Hpin : Hid (PIn w1 p lo) := H.out.1.more HR.out.2.2
 clear m1 cm
 obtain ⟨S, HS⟩ : ∃ S : World → Prop, Hid (∀ w', S w' ↔ More w1 w') := ⟨_, fun _ => Iff.rfl⟩
 have HS0 : S w1.drew := (HS.out _).2 (More.refl _).drew
 have hne : Nonempty { w' // S w' } := ⟨⟨_, HS0⟩⟩
 have k0 : ∀ i : { w' // S w' }, i.val.cell? ⟨w.heap.size, 0, none⟩ = some (.slice ra rl rc) := fun i => (HR.out.1.more ((HS.out _).1 i.property)).cell rfl
 have k1 : ∀ i : { w' // S w' }, i.val.cell? ⟨w.heap.size, 1, none⟩ = some (.slice ca cl cc) := fun i => (HR.out.1.more ((HS.out _).1 i.property)).cell rfl
 go_wp2_with (fail)
 refine wp_region_left (S := S) (by kernel_rfl) HS0 ?_
 refine ol_take 0 rfl (by kernel_rfl) HS0 (by kernel_rfl) (fun K hK => ?_); go_simp; refine hK _ _ ?_; clear hK K
 refine ol_take 1 rfl (by kernel_rfl) HS0 (by kernel_rfl) (fun K hK => ?_); go_simp; refine hK _ _ ?_; clear hK K
 refine ol_take 2 rfl (by kernel_rfl) HS0 (by kernel_rfl) (fun K hK => ?_); go_simp; refine hK _ _ ?_; clear hK K
 refine ol_take 3 rfl (by kernel_rfl) HS0 (by kernel_rfl) (fun K hK => ?_); go_simp; refine hK _ _ ?_; clear hK K
 obtain ⟨wd, Hwd⟩ : ∃ wd : World, Hid (wd = w1.drew) := ⟨_, rfl⟩
 have Hmwd : Hid (More w1 wd) := Hwd.out ▸ (More.refl w1).drew
 rw [← Hwd.out]
 clear k0 k1
 apply by_key
 ·intro key
  refine ol_two 4 6 (by kernel_rfl) ?_ ?_
  ·refine ol_step rfl (by kernel_rfl) (fun K hK => ?_); go_simp
   obtain ⟨w2, Hw2⟩ : ∃ w_ : World, Hid (w_ = wd.alloc (.cells Zs 116)) := ⟨_, rfl⟩
   have m2 : More wd w2 := Hw2.out ▸ (More.refl _).alloc _ _
   have Hm2 : Hid (More w1 w2) := Hmwd.out.trans m2
   have Hb2 : Hid (Blk w2 wd.heap.size Zs 116) := Hw2.out ▸ Blk.last _ _ _
   rw [← Hw2.out]
   clear m2 Hw2
   have HS2 : S w2 := (HS.out _).2 Hm2.out
   refine hK _ _ HS2 ?_; clear hK K
   refine ol_take 5 rfl (by kernel_rfl) HS2 (by kernel_rfl) (fun K hK => ?_); go_simp; refine hK _ _ ?_; clear hK K
   refine ol_one 6 (by kernel_rfl) ?_
   refine ol_step rfl (by kernel_rfl) (fun K hK => ?_); go_simp
   obtain ⟨w3, Hw3⟩ : ∃ w_ : World, Hid (w_ = w2.alloc (.cells #[.slice none 0 0, .slice none 0 0, .slice none 0 0, .slice none 0 0] 90)) := ⟨_, rfl⟩
   have m3 : More w2 w3 := Hw3.out ▸ (More.refl _).alloc _ _
   have Hm3 : Hid (More w1 w3) := Hm2.out.trans m3
   have Hb3 : Hid (Blk w3 w2.heap.size #[.slice none 0 0, .slice none 0 0, .slice none 0 0, .slice none 0 0] 90) := Hw3.out ▸ Blk.last _ _ _
   have F : Hid (ChB w1 cl w2.heap.size wd.heap.size w3) := ⟨Hb3.out, HZs.out ▸ Hb2.out.more m3, Hm3.out, Hm2.out.size, Hmwd.out.size, Nat.ne_of_gt Hb2.out.lt⟩
   rw [← Hw3.out]
   clear m3 Hw3
   refine hK _ _ ((HS.out _).2 Hm3.out) ?_; clear hK K
   refine ol_cast (listed' := #[true, true, true, true, true, true, true, false]) (by kernel_rfl) ?_
   clear Hb2 Hm2 HS2 Hm3 Hb3
   generalize w2.heap.size = gM at F ⊢
   generalize wd.heap.size = gB at F ⊢
   clear w2
   revert w3 gM gB
   exact key
  ·refine ol_step rfl (by kernel_rfl) (fun K hK => ?_); go_simp
   obtain ⟨w2, Hw2⟩ : ∃ w_ : World, Hid (w_ = wd.alloc (.cells #[.slice none 0 0, .slice none 0 0, .slice none 0 0, .slice none 0 0] 90)) := ⟨_, rfl⟩
   have m2 : More wd w2 := Hw2.out ▸ (More.refl _).alloc _ _
   have Hm2 : Hid (More w1 w2) := Hmwd.out.trans m2
   have Hb2 : Hid (Blk w2 wd.heap.size #[.slice none 0 0, .slice none 0 0, .slice none 0 0, .slice none 0 0] 90) := Hw2.out ▸ Blk.last _ _ _
   rw [← Hw2.out]
   clear m2 Hw2
   refine hK _ _ ((HS.out _).2 Hm2.out) ?_; clear hK K
   refine ol_one 4 (by kernel_rfl) ?_
   refine ol_step rfl (by kernel_rfl) (fun K hK => ?_); go_simp
   obtain ⟨w3, Hw3⟩ : ∃ w_ : World, Hid (w_ = w2.alloc (.cells Zs 116)) := ⟨_, rfl⟩
   have m3 : More w2 w3 := Hw3.out ▸ (More.refl _).alloc _ _
   have Hm3 : Hid (More w1 w3) := Hm2.out.trans m3
   have Hb3 : Hid (Blk w3 w2.heap.size Zs 116) := Hw3.out ▸ Blk.last _ _ _
   have F : Hid (ChB w1 cl wd.heap.size w2.heap.size w3) := ⟨Hb2.out.more m3, HZs.out ▸ Hb3.out, Hm3.out, Hmwd.out.size, Hm2.out.size, Nat.ne_of_lt Hb2.out.lt⟩
   rw [← Hw3.out]
   clear m3 Hw3
   have HS3 : S w3 := (HS.out _).2 Hm3.out
   refine hK _ _ HS3 ?_; clear hK K
   refine ol_take 5 rfl (by kernel_rfl) HS3 (by kernel_rfl) (fun K hK => ?_); go_simp; refine hK _ _ ?_; clear hK K
   refine ol_cast (listed' := #[true, true, true, true, true, true, true, false]) (by kernel_rfl) ?_
   exact key _ _ _ F
 ·intro w3 gM gB F
  obtain ⟨w4, Hw4⟩ : ∃ w_ : World, Hid (w_ = w3.setRow gM #[.slice ra rl rc, .slice ca cl cc, .slice (some ⟨gB, 0, none⟩) cl cl, .slice none 0 0]) := ⟨_, rfl⟩
  have Hck : Hid (Ck w1 p lo gM gB (fun _ => none) [] (.slice none 0 0) w4) := by
   rw [Hw4.out]
   refine ⟨?_, World.ownsRow_nil _ _ _ _, ?_, F.out.up.setRow F.out.ltM _, Hpin.out, ⟨F.out.ltM, F.out.ltB⟩⟩
   ·rw [Hra.out, Hrl.out, Hrc.out, Hca.out, Hcc.out, Hcl.out]
    exact F.out.bM.setRow _
   ·rw [Hcl.out]
    exact made_places cl gB _ (F.out.bB.setRow_other F.out.ne.symm _)
  refine ol_one 7 (by kernel_rfl) ?_
  refine ol_step rfl (by kernel_rfl) (fun K hK => ?_)
  refine wp_store_row 90 (.tmp 3) (.tmp 13) rfl gM #[.slice ra rl rc, .slice ca cl cc, .slice (some ⟨gB, 0, none⟩) cl cl, .slice none 0 0] rfl rfl 90 _ F.out.bM info59s rfl (by simp [Value.oneCell']) ?_
  rw [← Hw4.out]
  refine hK _ _ ((HS.out _).2 Hck.out.up) ?_; clear hK K
  refine ol_done (by kernel_rfl) ?_
  clear hne HS0
  have c1 := learn_calls Hck.out H.out.2.1 H.out.2.2
  go_wp2_with (fail)
  refine c1.mono ?_
  rintro e w5 ⟨rfl, kp5, l, tv, hk5, ck5⟩
  have Hck5 : Hid (Ck w1 p lo gM gB l [] tv w5 ∧ Known p l) := ⟨ck5, hk5⟩
  have c2 : Calls Try.prog 43 #[.pointer (some ⟨gM, 0, none⟩)] w5 fun e w' => e = .returned (.agg #[.int .i64 (checkK p l).1, .int .i64 (checkK p l).2]) ∧ More w5 w' := first_calls ck5 H.out.2.1 H.out.2.2 (by simp)
  clear kp5 hk5 ck5 c1
  have HP2 : Hid (∀ w', More w w' → P (.returned (.agg #[.int .i64 (checkK p l).1, .int .i64 (checkK p l).2])) w') := HP.out l Hck5.out.2
  obtain ⟨f, hf⟩ : ∃ x, checkK p l = x := ⟨_, rfl⟩
  rw [hf] at c2 HP2
  clear hf HP
  obtain ⟨f1, f2⟩ := f
  dsimp only at c2 HP2
  go_wp2_with (fail)
  refine c2.mono ?_
  rintro e w6 ⟨rfl, m6⟩
  have HR6 : Hid (Blk w6 (w.heap.size + 1) #[.int .i64 0, .int .i64 0] 28 ∧ More w w6) := ⟨HR.out.2.1.more (Hck5.out.1.up.trans m6), HR.out.2.2.trans (Hck5.out.1.up.trans m6)⟩
  have t0 := HR6.out.1.cell (j := 0) rfl
  have t1 := HR6.out.1.cell (j := 1) rfl
  have u0 := HR6.out.1.frozen 0
  have u1 := HR6.out.1.frozen 1
  clear m6 c2
  go_wp2
  refine bodyPost_ret (v := .agg #[.int .i64 f1, .int .i64 f2]) (by simp [results, Try.results19, go_sem, *]) rfl (HP2.out _ ?_)
  exact (HR6.out.2.setCell (by dsimp only; omega) _).setCell (by dsimp only; omega) _
end
section
open Go.RowKit
def tri (x y z : Int) (j : Nat) : Int := if j = 0 then x else if j = 1 then y else z
theorem tri_cells {w : World} {g : Nat} {x y z : Int} (h0 : w.cell? ⟨g, 0, none⟩ = some (.int .i64 x)) (h1 : w.cell? ⟨g, 1, none⟩ = some (.int .i64 y)) (h2 : w.cell? ⟨g, 2, none⟩ = some (.int .i64 z)) :
  ∀ j, j < 3 → w.cell? ⟨g, j, none⟩ = some (.int .i64 (tri x y z j)) := by
 intro j hj
 have : j = 0 ∨ j = 1 ∨ j = 2 := by omega
 rcases this with rfl | rfl | rfl
 ·exact h0
 ·exact h1
 ·exact h2

/-- What a shape is told as. -/
def Shape (x y z : Int) (num : Bool) (w : World) (e : Ending) (w' : World) : Prop :=
 ∃ g : Nat, e = .returned (.tuple #[.slice (some ⟨g, 0, none⟩) 3 3, .bool num, .bool true]) ∧ (∀ j, j < 3 → w'.cell? ⟨g, j, none⟩ = some (.int .i64 (tri x y z j))) ∧ More w w'

theorem shape_1 (w : World) : Calls Try.prog 67 #[.int .i64 1] w (Shape 1 0 0 true w) := by
 go_enter Try.func67, Try.ntmps67
 go_wp2
 go_ret3
 exact ⟨w.heap.size, rfl, tri_cells (by go_simp) (by go_simp) (by go_simp), (More.refl _).alloc _ _⟩

theorem shape_2 (w : World) : Calls Try.prog 67 #[.int .i64 2] w (Shape 1 1 0 false w) := by
 go_enter Try.func67, Try.ntmps67
 go_wp2
 go_ret3
 exact ⟨w.heap.size, rfl, tri_cells (by go_simp) (by go_simp) (by go_simp), (More.refl _).alloc _ _⟩

theorem shape_3 (w : World) : Calls Try.prog 67 #[.int .i64 3] w (Shape 1 1 2 true w) := by
 go_enter Try.func67, Try.ntmps67
 go_wp2
 go_ret3
 exact ⟨w.heap.size, rfl, tri_cells (by go_simp) (by go_simp) (by go_simp), (More.refl _).alloc _ _⟩

theorem shape_4 (w : World) : Calls Try.prog 67 #[.int .i64 4] w (Shape 1 1 2 true w) := by
 go_enter Try.func67, Try.ntmps67
 go_wp2
 go_ret3
 exact ⟨w.heap.size, rfl, tri_cells (by go_simp) (by go_simp) (by go_simp), (More.refl _).alloc _ _⟩

theorem shape_5 (w : World) : Calls Try.prog 67 #[.int .i64 5] w (Shape 1 0 2 true w) := by
 go_enter Try.func67, Try.ntmps67
 go_wp2
 go_ret3
 exact ⟨w.heap.size, rfl, tri_cells (by go_simp) (by go_simp) (by go_simp), (More.refl _).alloc _ _⟩

theorem shape_6 (w : World) : Calls Try.prog 67 #[.int .i64 6] w (Shape 1 0 2 true w) := by
 go_enter Try.func67, Try.ntmps67
 go_wp2
 go_ret3
 exact ⟨w.heap.size, rfl, tri_cells (by go_simp) (by go_simp) (by go_simp), (More.refl _).alloc _ _⟩

theorem shape_7 (w : World) : Calls Try.prog 67 #[.int .i64 7] w (Shape 0 0 0 true w) := by
 go_enter Try.func67, Try.ntmps67
 go_wp2
 go_ret3
 exact ⟨w.heap.size, rfl, tri_cells (by go_simp) (by go_simp) (by go_simp), (More.refl _).alloc _ _⟩

theorem shape_8 (w : World) : Calls Try.prog 67 #[.int .i64 8] w (Shape 1 1 2 true w) := by
 go_enter Try.func67, Try.ntmps67
 go_wp2
 go_ret3
 exact ⟨w.heap.size, rfl, tri_cells (by go_simp) (by go_simp) (by go_simp), (More.refl _).alloc _ _⟩

theorem shape_9 (w : World) : Calls Try.prog 67 #[.int .i64 9] w (Shape 1 0 0 false w) := by
 go_enter Try.func67, Try.ntmps67
 go_wp2
 go_ret3
 exact ⟨w.heap.size, rfl, tri_cells (by go_simp) (by go_simp) (by go_simp), (More.refl _).alloc _ _⟩

theorem shape_10 (w : World) : Calls Try.prog 67 #[.int .i64 10] w (Shape 1 1 0 true w) := by
 go_enter Try.func67, Try.ntmps67
 go_wp2
 go_ret3
 exact ⟨w.heap.size, rfl, tri_cells (by go_simp) (by go_simp) (by go_simp), (More.refl _).alloc _ _⟩

theorem shape_11 (w : World) : Calls Try.prog 67 #[.int .i64 11] w (Shape 1 0 0 true w) := by
 go_enter Try.func67, Try.ntmps67
 go_wp2
 go_ret3
 exact ⟨w.heap.size, rfl, tri_cells (by go_simp) (by go_simp) (by go_simp), (More.refl _).alloc _ _⟩

theorem shape_12 (w : World) : Calls Try.prog 67 #[.int .i64 12] w (Shape 0 0 0 false w) := by
 go_enter Try.func67, Try.ntmps67
 go_wp2
 go_ret3
 exact ⟨w.heap.size, rfl, tri_cells (by go_simp) (by go_simp) (by go_simp), (More.refl _).alloc _ _⟩

theorem shape_op (op : Int) (h1 : 20 < op) (h2 : op ≤ 30) (w : World) : Calls Try.prog 67 #[.int .i64 op] w (Shape 1 1 1 false w) := by
 go_enter Try.func67, Try.ntmps67
 go_wp2
 go_ret3
 exact ⟨w.heap.size, rfl, tri_cells (by go_simp) (by go_simp) (by go_simp), (More.refl _).alloc _ _⟩

theorem shape_else (op : Int) (h1 : ¬ op = 1) (h2 : ¬ op = 2) (h3 : ¬ op = 3) (h4 : ¬ op = 4) (h5 : ¬ op = 5) (h6 : ¬ op = 6) (h7 : ¬ op = 7) (h8 : ¬ op = 8) (h9 : ¬ op = 9) (h10 : ¬ op = 10) (h11 : ¬ op = 11) (h12 : ¬ op = 12) (h : ¬ (20 < op ∧ op ≤ 30)) (w : World) : Calls Try.prog 67 #[.int .i64 op] w fun e w' => e = .returned (.tuple #[.slice none 0 0, .bool false, .bool false]) ∧ w' = w := by
 by_cases h20 : 20 < op
 ·have h30 : ¬ op ≤ 30 := fun k => h ⟨h20, k⟩
  clear h
  go_enter Try.func67, Try.ntmps67
  go_wp2
  go_ret3
  exact ⟨rfl, rfl⟩
 ·clear h
  go_enter Try.func67, Try.ntmps67
  go_wp2
  go_ret3
  exact ⟨rfl, rfl⟩

set_option maxHeartbeats 400000 in
theorem ref_regions (ra : Option Addr) (rl rc : Nat) (ca : Option Addr) (cl cc : Nat) (b o : Nat) (log : Nat → Int) (sec : Nat → Bool) (w : World)
  (hra : 0 < rl → ra = some ⟨b, o, none⟩) (hr : RegsAt w b o rl log sec) :
  Calls Try.prog 28 #[.agg #[.slice ra rl rc, .slice ca cl cc]] w (Says (RegionsOk rl log) w) := by
 by_cases h6 : 6 < rl
 ·have Hr : Hid (RegsAt w b o rl log sec) := hr
  clear hr
  have h6' : (6 : Int) < (rl : Int) := by omega
  go_enter Try.func28, Try.ntmps28
  go_wp2
  go_ret
  exact Says.no (fun h => by have := h.1; omega) ((More.refl _).alloc _ _)
 ·have h6' : ¬ (6 : Int) < (rl : Int) := by omega
  have Hr : Hid (RegsAt w b o rl log sec) := hr
  have Ha : Hid (0 < rl → ra = some ⟨b, o, none⟩) := hra
  clear hr hra
  go_enter Try.func28, Try.ntmps28
  go_wp2
  go_loopg [3] rl (fun g i wr => ∃ k : Nat, k + g = rl ∧ i = .int .i64 k ∧ (∀ j, j < k → 0 ≤ log j ∧ log j ≤ 6) ∧ wr = w.alloc (.cells #[.slice ra rl rc, .slice ca cl cc] 25))
  case atStart => exact ⟨0, by omega, rfl, fun j hj => by omega, rfl⟩
  case round =>
   obtain ⟨k, hkg, rfl, hok, rfl⟩ := hrel
   have Hok : Hid (∀ j, j < k → 0 ≤ log j ∧ log j ≤ 6) := hok
   clear hok
   cases gk with
   | zero =>
    obtain rfl : k = rl := by omega
    go_wp2
    go_ret
    exact Says.yes ⟨by omega, Hok.out⟩ ((More.refl _).alloc _ _)
   | succ g =>
    have hk : k < rl := by omega
    have hk' : (k : Int) < (rl : Int) := by omega
    obtain rfl := Ha.out (by omega)
    have hc0 := ((Hr.out.more ((More.refl _).alloc #[.slice (some ⟨b, o, none⟩) rl rc, .slice ca cl cc] 25)) k hk).1
    by_cases hlo : log k < 0
    ·go_wp2
     go_ret
     exact Says.no (fun h => by have := (h.2 k hk).1; omega) ((More.refl _).alloc _ _)
    ·by_cases hhi : 6 < log k
     ·go_wp2
      go_ret
      exact Says.no (fun h => by have := (h.2 k hk).2; omega) ((More.refl _).alloc _ _)
     ·go_wp2
      go_roundg g
      case measure => omega
      case rel =>
       refine ⟨k + 1, by omega, by first | rfl | simp, fun j hj => ?_, rfl⟩
       by_cases e : j = k
       ·subst e; omega
       ·exact Hok.out j (by omega)

theorem ref_words (l : Int) (h0 : 0 ≤ l) (h1 : l ≤ 6) (s : Bool) (w : World) :
  Calls Try.prog 29 #[.agg #[.int .i64 l, .bool s]] w fun e w' => e = .returned (.int .i64 (wordsI l)) ∧ More w w' := by
 obtain ⟨n, rfl⟩ : ∃ n : Nat, l = n := ⟨l.toNat, by omega⟩
 have hn : n ≤ 6 := by omega
 clear h0 h1
 obtain ⟨R, HR⟩ : ∃ R, Hid (wordsI (n : Int) = R) := ⟨_, rfl⟩
 rw [HR.out]
 go_enter Try.func29, Try.ntmps29
 go_wp2
 go_loopg [3, 4] n (fun g nv i wr => ∃ (k : Nat) (m : Int), k + g = n ∧ m = 2 ^ k ∧ nv = .int .i64 m ∧ i = .int .i64 k ∧ wr = w.alloc (.cells #[.int .i64 n, .bool s] 51))
 case atStart => exact ⟨0, 1, by omega, by decide, rfl, rfl, rfl⟩
 case round =>
  obtain ⟨k, m, hkg, hm, rfl, rfl, rfl⟩ := hrel
  have hb := two_pow_le (k := k) (by omega)
  rw [← hm] at hb
  have Hm : Hid (m = 2 ^ k) := hm
  clear hm
  obtain ⟨b0, b1⟩ := hb
  cases gk with
  | zero =>
   obtain rfl : k = n := by omega
   go_wp2
   go_ret
   refine ⟨?_, (More.refl _).alloc _ _⟩
   rw [Hm.out, ← HR.out]
   simp [wordsI]
  | succ g =>
   have hk' : (k : Int) < (n : Int) := by omega
   go_wp2
   go_roundg g
   case measure => omega
   case rel =>
    refine ⟨k + 1, m + m, by omega, by rw [Int.pow_succ, ← Hm.out]; omega, ?_, by first | rfl | simp, rfl⟩
    first | rfl | (simp; unfold wrap64; omega)
/-- A field: not there (0), a register (1), or something else. -/
def Fld (regs l f : Int) : Prop := (l = 0 → f = 0) ∧ (l = 1 → Reg regs f)

/-- The boxes of the program and of the instruction, in a world that has grown since. -/
theorem boxes2 {w w1 : World} {x0 x1 y0 y1 y2 y3 y4 : Value} {t u : TypeId} (m : More ((w.alloc (.cells #[x0, x1] t)).alloc (.cells #[y0, y1, y2, y3, y4] u)) w1) :
  (w1.cell? ⟨w.heap.size, 0, none⟩ = some x0 ∧ w1.cell? ⟨w.heap.size, 1, none⟩ = some x1) ∧
  w1.cell? ⟨w.heap.size + 1, 0, none⟩ = some y0 ∧ w1.cell? ⟨w.heap.size + 1, 1, none⟩ = some y1 ∧ w1.cell? ⟨w.heap.size + 1, 2, none⟩ = some y2 ∧ w1.cell? ⟨w.heap.size + 1, 3, none⟩ = some y3 ∧ w1.cell? ⟨w.heap.size + 1, 4, none⟩ = some y4 := by
 refine ⟨⟨m.cell (by go_simp), m.cell (by go_simp)⟩, m.cell (by go_simp), m.cell (by go_simp), m.cell (by go_simp), m.cell (by go_simp), m.cell (by go_simp)⟩
set_option maxRecDepth 8000 in
set_option maxHeartbeats 1000000 in
theorem ins_1 (ra : Option Addr) (rl rc : Nat) (ca : Option Addr) (cl cc : Nat) (a b c n regs : Int) (w : World) (P : Prop) (HP : Hid (P ↔ (True ∧ (∀ j, j < 3 → Fld regs (tri 1 0 0 j) (tri a b c j)) ∧ True))) :
  Calls Try.prog 53 #[.agg #[.slice ra rl rc, .slice ca cl cc], .agg #[.int .i64 1, .int .i64 a, .int .i64 b, .int .i64 c, .int .i64 n], .int .i64 regs] w (Says P w) := by
 go_enter Try.func53, Try.ntmps53
 go_wp2_with (fail)
 refine (shape_1 _).mono ?_
 rintro e w1 ⟨g, rfl, hg, m1⟩
 obtain ⟨⟨c0, c1⟩, d0, d1, d2, d3, d4⟩ := boxes2 m1
 have Hg : Hid (∀ j, j < 3 → w1.cell? ⟨g, j, none⟩ = some (.int .i64 (tri 1 0 0 j))) := hg
 have Hm1 : Hid (More w w1) := (((More.refl _).alloc _ _).alloc _ _).trans m1
 clear hg m1
 have HN : Hid True := trivial
 go_wp2
 obtain ⟨W, HW⟩ : ∃ W : World, Hid (W = w1.alloc (.cells #[.int .i64 a, .int .i64 b, .int .i64 c] 3)) := ⟨_, rfl⟩
 have Hm1W : Hid (More w1 W) := HW.out ▸ (More.refl _).alloc _ _
 have Hm : Hid (More w W) := Hm1.out.trans Hm1W.out
 have Hf : Hid (∀ j, j < 3 → W.cell? ⟨w1.heap.size, j, none⟩ = some (.int .i64 (tri a b c j))) := by rw [HW.out]; exact tri_cells (by go_simp) (by go_simp) (by go_simp)
 have Hg' : Hid (∀ j, j < 3 → W.cell? ⟨g, j, none⟩ = some (.int .i64 (tri 1 0 0 j))) := fun j hj => Hm1W.out.cell (Hg.out j hj)
 clear Hg
 replace c0 := Hm1W.out.cell c0
 replace c1 := Hm1W.out.cell c1
 replace d0 := Hm1W.out.cell d0
 replace d1 := Hm1W.out.cell d1
 replace d2 := Hm1W.out.cell d2
 replace d3 := Hm1W.out.cell d3
 replace d4 := Hm1W.out.cell d4
 go_loopg [11] 3 (fun q i wr => ∃ k : Nat, k + q = 3 ∧ i = .int .i64 k ∧ (∀ j, j < k → Fld regs (tri 1 0 0 j) (tri a b c j)) ∧ wr = W)
 case atStart => exact ⟨0, by omega, rfl, fun j hj => by omega, HW.out.symm⟩
 case round =>
  obtain ⟨k, hkg, rfl, hok, rfl⟩ := hrel
  have Hok : Hid (∀ j, j < k → Fld regs (tri 1 0 0 j) (tri a b c j)) := hok
  clear hok
  cases gk with
  | zero =>
   obtain rfl : k = 3 := by omega
   go_wp2
   go_ret
   exact Says.yes (HP.out.2 ⟨HN.out, Hok.out, trivial⟩) Hm.out
  | succ q =>
   clear d0 d1 d2 d3 d4 c0 c1
   have hk : k < 3 := by omega
   have hk' : (k : Int) < 3 := by omega
   have hk0 : (0 : Int) ≤ (k : Int) := by omega
   have qg := Hg'.out k hk
   have qf := Hf.out k hk
   obtain ⟨x, hx⟩ : ∃ x, tri 1 0 0 k = x := ⟨_, rfl⟩
   obtain ⟨y, hy⟩ : ∃ y, tri a b c k = y := ⟨_, rfl⟩
   rw [hx] at qg
   rw [hy] at qf
   have HX : Hid (tri 1 0 0 k = x ∧ tri a b c k = y) := ⟨hx, hy⟩
   clear hx hy
   have step : Hid (Fld regs x y → ∀ j, j < k + 1 → Fld regs (tri 1 0 0 j) (tri a b c j)) := by
    intro h j hj
    by_cases e : j = k
    ·subst e; rw [HX.out.1, HX.out.2]; exact h
    ·exact Hok.out j (by omega)
   have back : Hid ((∀ j, j < 3 → Fld regs (tri 1 0 0 j) (tri a b c j)) → Fld regs x y) := by
    intro h
    have := h k hk
    rw [HX.out.1, HX.out.2] at this
    exact this
   by_cases hx0 : x = 0
   ·subst hx0
    by_cases hy0 : y = 0
    ·subst hy0
     go_wp2
     go_roundg q
     case measure => omega
     case rel => exact ⟨k + 1, by omega, by first | rfl | simp, step.out ⟨fun _ => rfl, fun h => by simp at h⟩, rfl⟩
    ·have hy1 : (y != 0) = true := by simp [hy0]
     have Hy : Hid (¬ y = 0) := hy0
     clear hy0
     go_wp2
     go_ret
     exact Says.no (fun h => Hy.out ((back.out (HP.out.1 h).2.1).1 rfl)) Hm.out
   by_cases hx1 : x = 1
   ·subst hx1
    clear hx0
    by_cases hy0 : y < 0
    ·have Hy : Hid (y < 0) := hy0
     go_wp2
     go_ret
     exact Says.no (fun h => by have := ((back.out (HP.out.1 h).2.1).2 rfl).1; have := Hy.out; omega) Hm.out
    by_cases hy1 : regs ≤ y
    ·have Hy : Hid (regs ≤ y) := hy1
     go_wp2
     go_ret
     exact Says.no (fun h => by have := ((back.out (HP.out.1 h).2.1).2 rfl).2; have := Hy.out; omega) Hm.out
    have Hy : Hid (Reg regs y) := ⟨by omega, by omega⟩
    go_wp2
    go_roundg q
    case measure => omega
    case rel => exact ⟨k + 1, by omega, by first | rfl | simp, step.out ⟨fun h => by simp at h, fun _ => Hy.out⟩, rfl⟩
   have Hx : Hid (¬ x = 0 ∧ ¬ x = 1) := ⟨hx0, hx1⟩
   have hx2 : (x == 0) = false := by simp [hx0]
   have hx3 : (x == 1) = false := by simp [hx1]
   clear hx0 hx1
   go_wp2
   go_roundg q
   case measure => omega
   case rel => exact ⟨k + 1, by omega, by first | rfl | simp, step.out ⟨fun h => absurd h Hx.out.1, fun h => absurd h Hx.out.2⟩, rfl⟩

set_option maxRecDepth 8000 in
set_option maxHeartbeats 1000000 in
theorem ins_2 (ra : Option Addr) (rl rc : Nat) (ca : Option Addr) (cl cc : Nat) (a b c n regs : Int) (w : World) (P : Prop) (HP : Hid (P ↔ (n = 0 ∧ (∀ j, j < 3 → Fld regs (tri 1 1 0 j) (tri a b c j)) ∧ True))) :
  Calls Try.prog 53 #[.agg #[.slice ra rl rc, .slice ca cl cc], .agg #[.int .i64 2, .int .i64 a, .int .i64 b, .int .i64 c, .int .i64 n], .int .i64 regs] w (Says P w) := by
 go_enter Try.func53, Try.ntmps53
 go_wp2_with (fail)
 refine (shape_2 _).mono ?_
 rintro e w1 ⟨g, rfl, hg, m1⟩
 obtain ⟨⟨c0, c1⟩, d0, d1, d2, d3, d4⟩ := boxes2 m1
 have Hg : Hid (∀ j, j < 3 → w1.cell? ⟨g, j, none⟩ = some (.int .i64 (tri 1 1 0 j))) := hg
 have Hm1 : Hid (More w w1) := (((More.refl _).alloc _ _).alloc _ _).trans m1
 clear hg m1
 by_cases hn0 : n = 0
 rotate_left
 ·have HN : Hid (¬ n = 0) := hn0
  have hn1 : (n != 0) = true := by simp [hn0]
  clear hn0
  go_wp2
  go_ret
  exact Says.no (fun h => HN.out (HP.out.1 h).1) Hm1.out
 have HN : Hid (n = 0) := hn0
 have hn1 : (n != 0) = false := by simp [hn0]
 clear hn0
 go_wp2
 obtain ⟨W, HW⟩ : ∃ W : World, Hid (W = w1.alloc (.cells #[.int .i64 a, .int .i64 b, .int .i64 c] 3)) := ⟨_, rfl⟩
 have Hm1W : Hid (More w1 W) := HW.out ▸ (More.refl _).alloc _ _
 have Hm : Hid (More w W) := Hm1.out.trans Hm1W.out
 have Hf : Hid (∀ j, j < 3 → W.cell? ⟨w1.heap.size, j, none⟩ = some (.int .i64 (tri a b c j))) := by rw [HW.out]; exact tri_cells (by go_simp) (by go_simp) (by go_simp)
 have Hg' : Hid (∀ j, j < 3 → W.cell? ⟨g, j, none⟩ = some (.int .i64 (tri 1 1 0 j))) := fun j hj => Hm1W.out.cell (Hg.out j hj)
 clear Hg
 replace c0 := Hm1W.out.cell c0
 replace c1 := Hm1W.out.cell c1
 replace d0 := Hm1W.out.cell d0
 replace d1 := Hm1W.out.cell d1
 replace d2 := Hm1W.out.cell d2
 replace d3 := Hm1W.out.cell d3
 replace d4 := Hm1W.out.cell d4
 go_loopg [11] 3 (fun q i wr => ∃ k : Nat, k + q = 3 ∧ i = .int .i64 k ∧ (∀ j, j < k → Fld regs (tri 1 1 0 j) (tri a b c j)) ∧ wr = W)
 case atStart => exact ⟨0, by omega, rfl, fun j hj => by omega, HW.out.symm⟩
 case round =>
  obtain ⟨k, hkg, rfl, hok, rfl⟩ := hrel
  have Hok : Hid (∀ j, j < k → Fld regs (tri 1 1 0 j) (tri a b c j)) := hok
  clear hok
  cases gk with
  | zero =>
   obtain rfl : k = 3 := by omega
   go_wp2
   go_ret
   exact Says.yes (HP.out.2 ⟨HN.out, Hok.out, trivial⟩) Hm.out
  | succ q =>
   clear d0 d1 d2 d3 d4 c0 c1
   have hk : k < 3 := by omega
   have hk' : (k : Int) < 3 := by omega
   have hk0 : (0 : Int) ≤ (k : Int) := by omega
   have qg := Hg'.out k hk
   have qf := Hf.out k hk
   obtain ⟨x, hx⟩ : ∃ x, tri 1 1 0 k = x := ⟨_, rfl⟩
   obtain ⟨y, hy⟩ : ∃ y, tri a b c k = y := ⟨_, rfl⟩
   rw [hx] at qg
   rw [hy] at qf
   have HX : Hid (tri 1 1 0 k = x ∧ tri a b c k = y) := ⟨hx, hy⟩
   clear hx hy
   have step : Hid (Fld regs x y → ∀ j, j < k + 1 → Fld regs (tri 1 1 0 j) (tri a b c j)) := by
    intro h j hj
    by_cases e : j = k
    ·subst e; rw [HX.out.1, HX.out.2]; exact h
    ·exact Hok.out j (by omega)
   have back : Hid ((∀ j, j < 3 → Fld regs (tri 1 1 0 j) (tri a b c j)) → Fld regs x y) := by
    intro h
    have := h k hk
    rw [HX.out.1, HX.out.2] at this
    exact this
   by_cases hx0 : x = 0
   ·subst hx0
    by_cases hy0 : y = 0
    ·subst hy0
     go_wp2
     go_roundg q
     case measure => omega
     case rel => exact ⟨k + 1, by omega, by first | rfl | simp, step.out ⟨fun _ => rfl, fun h => by simp at h⟩, rfl⟩
    ·have hy1 : (y != 0) = true := by simp [hy0]
     have Hy : Hid (¬ y = 0) := hy0
     clear hy0
     go_wp2
     go_ret
     exact Says.no (fun h => Hy.out ((back.out (HP.out.1 h).2.1).1 rfl)) Hm.out
   by_cases hx1 : x = 1
   ·subst hx1
    clear hx0
    by_cases hy0 : y < 0
    ·have Hy : Hid (y < 0) := hy0
     go_wp2
     go_ret
     exact Says.no (fun h => by have := ((back.out (HP.out.1 h).2.1).2 rfl).1; have := Hy.out; omega) Hm.out
    by_cases hy1 : regs ≤ y
    ·have Hy : Hid (regs ≤ y) := hy1
     go_wp2
     go_ret
     exact Says.no (fun h => by have := ((back.out (HP.out.1 h).2.1).2 rfl).2; have := Hy.out; omega) Hm.out
    have Hy : Hid (Reg regs y) := ⟨by omega, by omega⟩
    go_wp2
    go_roundg q
    case measure => omega
    case rel => exact ⟨k + 1, by omega, by first | rfl | simp, step.out ⟨fun h => by simp at h, fun _ => Hy.out⟩, rfl⟩
   have Hx : Hid (¬ x = 0 ∧ ¬ x = 1) := ⟨hx0, hx1⟩
   have hx2 : (x == 0) = false := by simp [hx0]
   have hx3 : (x == 1) = false := by simp [hx1]
   clear hx0 hx1
   go_wp2
   go_roundg q
   case measure => omega
   case rel => exact ⟨k + 1, by omega, by first | rfl | simp, step.out ⟨fun h => absurd h Hx.out.1, fun h => absurd h Hx.out.2⟩, rfl⟩

set_option maxRecDepth 8000 in
set_option maxHeartbeats 1000000 in
theorem ins_9 (ra : Option Addr) (rl rc : Nat) (ca : Option Addr) (cl cc : Nat) (a b c n regs : Int) (w : World) (P : Prop) (HP : Hid (P ↔ (n = 0 ∧ (∀ j, j < 3 → Fld regs (tri 1 0 0 j) (tri a b c j)) ∧ True))) :
  Calls Try.prog 53 #[.agg #[.slice ra rl rc, .slice ca cl cc], .agg #[.int .i64 9, .int .i64 a, .int .i64 b, .int .i64 c, .int .i64 n], .int .i64 regs] w (Says P w) := by
 go_enter Try.func53, Try.ntmps53
 go_wp2_with (fail)
 refine (shape_9 _).mono ?_
 rintro e w1 ⟨g, rfl, hg, m1⟩
 obtain ⟨⟨c0, c1⟩, d0, d1, d2, d3, d4⟩ := boxes2 m1
 have Hg : Hid (∀ j, j < 3 → w1.cell? ⟨g, j, none⟩ = some (.int .i64 (tri 1 0 0 j))) := hg
 have Hm1 : Hid (More w w1) := (((More.refl _).alloc _ _).alloc _ _).trans m1
 clear hg m1
 by_cases hn0 : n = 0
 rotate_left
 ·have HN : Hid (¬ n = 0) := hn0
  have hn1 : (n != 0) = true := by simp [hn0]
  clear hn0
  go_wp2
  go_ret
  exact Says.no (fun h => HN.out (HP.out.1 h).1) Hm1.out
 have HN : Hid (n = 0) := hn0
 have hn1 : (n != 0) = false := by simp [hn0]
 clear hn0
 go_wp2
 obtain ⟨W, HW⟩ : ∃ W : World, Hid (W = w1.alloc (.cells #[.int .i64 a, .int .i64 b, .int .i64 c] 3)) := ⟨_, rfl⟩
 have Hm1W : Hid (More w1 W) := HW.out ▸ (More.refl _).alloc _ _
 have Hm : Hid (More w W) := Hm1.out.trans Hm1W.out
 have Hf : Hid (∀ j, j < 3 → W.cell? ⟨w1.heap.size, j, none⟩ = some (.int .i64 (tri a b c j))) := by rw [HW.out]; exact tri_cells (by go_simp) (by go_simp) (by go_simp)
 have Hg' : Hid (∀ j, j < 3 → W.cell? ⟨g, j, none⟩ = some (.int .i64 (tri 1 0 0 j))) := fun j hj => Hm1W.out.cell (Hg.out j hj)
 clear Hg
 replace c0 := Hm1W.out.cell c0
 replace c1 := Hm1W.out.cell c1
 replace d0 := Hm1W.out.cell d0
 replace d1 := Hm1W.out.cell d1
 replace d2 := Hm1W.out.cell d2
 replace d3 := Hm1W.out.cell d3
 replace d4 := Hm1W.out.cell d4
 go_loopg [11] 3 (fun q i wr => ∃ k : Nat, k + q = 3 ∧ i = .int .i64 k ∧ (∀ j, j < k → Fld regs (tri 1 0 0 j) (tri a b c j)) ∧ wr = W)
 case atStart => exact ⟨0, by omega, rfl, fun j hj => by omega, HW.out.symm⟩
 case round =>
  obtain ⟨k, hkg, rfl, hok, rfl⟩ := hrel
  have Hok : Hid (∀ j, j < k → Fld regs (tri 1 0 0 j) (tri a b c j)) := hok
  clear hok
  cases gk with
  | zero =>
   obtain rfl : k = 3 := by omega
   go_wp2
   go_ret
   exact Says.yes (HP.out.2 ⟨HN.out, Hok.out, trivial⟩) Hm.out
  | succ q =>
   clear d0 d1 d2 d3 d4 c0 c1
   have hk : k < 3 := by omega
   have hk' : (k : Int) < 3 := by omega
   have hk0 : (0 : Int) ≤ (k : Int) := by omega
   have qg := Hg'.out k hk
   have qf := Hf.out k hk
   obtain ⟨x, hx⟩ : ∃ x, tri 1 0 0 k = x := ⟨_, rfl⟩
   obtain ⟨y, hy⟩ : ∃ y, tri a b c k = y := ⟨_, rfl⟩
   rw [hx] at qg
   rw [hy] at qf
   have HX : Hid (tri 1 0 0 k = x ∧ tri a b c k = y) := ⟨hx, hy⟩
   clear hx hy
   have step : Hid (Fld regs x y → ∀ j, j < k + 1 → Fld regs (tri 1 0 0 j) (tri a b c j)) := by
    intro h j hj
    by_cases e : j = k
    ·subst e; rw [HX.out.1, HX.out.2]; exact h
    ·exact Hok.out j (by omega)
   have back : Hid ((∀ j, j < 3 → Fld regs (tri 1 0 0 j) (tri a b c j)) → Fld regs x y) := by
    intro h
    have := h k hk
    rw [HX.out.1, HX.out.2] at this
    exact this
   by_cases hx0 : x = 0
   ·subst hx0
    by_cases hy0 : y = 0
    ·subst hy0
     go_wp2
     go_roundg q
     case measure => omega
     case rel => exact ⟨k + 1, by omega, by first | rfl | simp, step.out ⟨fun _ => rfl, fun h => by simp at h⟩, rfl⟩
    ·have hy1 : (y != 0) = true := by simp [hy0]
     have Hy : Hid (¬ y = 0) := hy0
     clear hy0
     go_wp2
     go_ret
     exact Says.no (fun h => Hy.out ((back.out (HP.out.1 h).2.1).1 rfl)) Hm.out
   by_cases hx1 : x = 1
   ·subst hx1
    clear hx0
    by_cases hy0 : y < 0
    ·have Hy : Hid (y < 0) := hy0
     go_wp2
     go_ret
     exact Says.no (fun h => by have := ((back.out (HP.out.1 h).2.1).2 rfl).1; have := Hy.out; omega) Hm.out
    by_cases hy1 : regs ≤ y
    ·have Hy : Hid (regs ≤ y) := hy1
     go_wp2
     go_ret
     exact Says.no (fun h => by have := ((back.out (HP.out.1 h).2.1).2 rfl).2; have := Hy.out; omega) Hm.out
    have Hy : Hid (Reg regs y) := ⟨by omega, by omega⟩
    go_wp2
    go_roundg q
    case measure => omega
    case rel => exact ⟨k + 1, by omega, by first | rfl | simp, step.out ⟨fun h => by simp at h, fun _ => Hy.out⟩, rfl⟩
   have Hx : Hid (¬ x = 0 ∧ ¬ x = 1) := ⟨hx0, hx1⟩
   have hx2 : (x == 0) = false := by simp [hx0]
   have hx3 : (x == 1) = false := by simp [hx1]
   clear hx0 hx1
   go_wp2
   go_roundg q
   case measure => omega
   case rel => exact ⟨k + 1, by omega, by first | rfl | simp, step.out ⟨fun h => absurd h Hx.out.1, fun h => absurd h Hx.out.2⟩, rfl⟩
end
end Go.Proofs.Ytmpafeoileonjaa
