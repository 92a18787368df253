/-
  The texts CvLead, CvLearn, CvTells, CvLeaves, CvWrong, CvFirst, Regions, Fields, one behind the other, with what is used of them.
-/
import Derived.Test.YtlbfbjeilfcjeaaJoined1
import Derived.WalkSmall
import Derived.Test.YtlbfbjeilfcjeaaRows
import Derived.WalkKit
import Derived.Deep.LoopGhost
import Derived.Test.YtlbfbjeilfcjeaaJoined0
import Derived.Deep.RegionHeld3
namespace Go.Proofs.Ytlbfbjeilfcjeaa
section
open Go.RowKit
set_option linter.unusedSimpArgs false
set_option linter.unusedVariables false
set_option maxRecDepth 8000
/-- One lead behind the other. -/
def ComeL (p : Prg) : List (Nat × KS) → KV → List Nat → KV → List Nat → Prop
 | [], l, td, l', td' => l' = l ∧ td' = td
 | x :: R, l, td, l', td' => ∃ l1 td1, ComeK p l td x l1 td1 ∧ ComeL p R l1 td1 l' td'
theorem ComeK.len {p : Prg} {l l' : KV} {td td' : List Nat} {x : Nat × KS} (h : ComeK p l td x l' td') : td'.length ≤ td.length + 1 := by
 rcases h with ⟨_, _, rfl⟩ | ⟨_, _, _, rfl⟩ | ⟨_, _, _, rfl⟩
 ·omega
 ·omega
 ·simp

theorem info67 : (Try.prog.info? 55).map (·.size) = some 5 := by kernel_rfl
theorem yes_wh (i : Ins) (s : KS) (h : i.c = 1 ∨ i.c = 2 ∨ i.c = 3 ∨ i.c = 4) : whK i.c i.a i.b s = yesK i s := by
 unfold whK yesK bothK firstK secondK
 rcases h with h | h | h | h <;> simp [h]
theorem no_wh (i : Ins) (s : KS) (h : i.c = 1 ∨ i.c = 2 ∨ i.c = 3 ∨ i.c = 4) : whK (oppI i.c) i.a i.b s = noK i s := by
 unfold whK noK bothK firstK secondK oppI
 rcases h with h | h | h | h <;> simp [h]
theorem opp_in (c : Int) (h : c = 1 ∨ c = 2 ∨ c = 3 ∨ c = 4) : oppI c = 1 ∨ oppI c = 2 ∨ oppI c = 3 ∨ oppI c = 4 := by
 unfold oppI
 rcases h with h | h | h | h <;> simp [h]

/-- Where lead stands ahead of the stores of its two boxes. -/
structure LdB (w : World) (g4 g5 : Nat) (w' : World) : Prop where
 b4 : Blk w' g4 #[.int .i64 0, .int .i64 0, .int .i64 0, .int .i64 0, .int .i64 0] 55
 b5 : Blk w' g5 (kv zeroK) 119
 up : More w w'
 lt4 : w.heap.size ≤ g4
 lt5 : w.heap.size ≤ g5
 ne : g4 ≠ g5
/-- Its two boxes. -/
structure LdF (g4 g5 : Nat) (i : Ins) (s : KS) (w' : World) : Prop where
 b4 : Blk w' g4 #[.int .i64 i.op, .int .i64 i.a, .int .i64 i.b, .int .i64 i.c, .int .i64 i.n] 55
 b5 : Blk w' g5 (kv s) 119
theorem LdF.keeps {g4 g5 : Nat} {i : Ins} {s : KS} {w w' : World} (h : LdF g4 g5 i s w) (k : Keeps w w') : LdF g4 g5 i s w' := ⟨k _ _ _ (by decide) (by decide) (by decide) h.b4, k _ _ _ (by decide) (by decide) (by decide) h.b5⟩
theorem LdF.more {g4 g5 : Nat} {i : Ins} {s : KS} {w w' : World} (h : LdF g4 g5 i s w) (k : More w w') : LdF g4 g5 i s w' := h.keeps (Keeps.of k)

set_option maxHeartbeats 4000000 in
theorem lead_all {w0 : World} {p : Prg} {lo : Loc} {M B : Nat} {l : KV} {td : List Nat} {tv : Value} {w : World} (h : Ck w0 p lo M B l td tv w) (hcl : p.cl ≤ 200) (hn : td.length ≤ 99990) (at_ : Nat) (hat : at_ < p.cl) (s : KS) (hl : l at_ = some s) (op a b c n : Int) (hin : p.ins at_ = ⟨op, a, b, c, n⟩) (hok : InsOk p.rl p.log p.cl 8 ⟨op, a, b, c, n⟩) (n0 : -9223372036854775808 ≤ n) (n1 : n ≤ 9223372036854775807) :
  Calls Try.prog 64 #[.pointer (some ⟨M, 0, none⟩), .int .i64 at_] w fun e w' => e = .returned (.tuple #[]) ∧ Keeps w w' ∧ ∃ l' td' tv', ComeL p (leadsK p at_ s) l td l' td' ∧ Ck w0 p lo M B l' td' tv' w' := by
 suffices hP : ∀ P : Ending → World → Prop, (∀ l' td' tv' w', ComeL p (leadsK p at_ s) l td l' td' → Ck w0 p lo M B l' td' tv' w' → Keeps w w' → P (.returned (.tuple #[])) w') → Calls Try.prog 64 #[.pointer (some ⟨M, 0, none⟩), .int .i64 at_] w P from hP _ (fun l' td' tv' w' a b c => ⟨rfl, c, l', td', tv', a, b⟩)
 intro P hP0
 have HP : Hid (∀ l' td' tv' w', ComeL p (leadsK p at_ s) l td l' td' → Ck w0 p lo M B l' td' tv' w' → Keeps w w' → P (.returned (.tuple #[])) w') := hP0
 clear hP0
 have Hck : Hid (Ck w0 p lo M B l td tv w) := h
 have m1 : w.cell? ⟨M, 1, none⟩ = some (.slice lo.ca p.cl lo.cc) := h.box.cell (j := 1) rfl
 have m2 : w.cell? ⟨M, 2, none⟩ = some (.slice (some ⟨B, 0, none⟩) p.cl p.cl) := h.box.cell (j := 2) rfl
 rw [h.pin.hc (by omega)] at m1
 have hcode := h.pinw.code at_ hat
 rw [hin] at hcode
 dsimp only at hcode
 obtain ⟨q0, q1, q2, q3, q4⟩ := hcode
 have Hpl : Hid (∀ w', More w w' → ∀ j v, (kv s)[j]? = some v → w'.cell? ⟨B, at_ * 17 + j, none⟩ = some v) := fun w' m => (h.more m).pl.regs hat hl
 have HN : Hid (td.length ≤ 99990 ∧ p.cl ≤ 200 ∧ at_ < p.cl ∧ p.ins at_ = ⟨op, a, b, c, n⟩) := ⟨hn, hcl, hat, hin⟩
 have hiC := info104k s
 have hone : (kv s).all (·.oneCell') = true := kv_one s
 have hz16 : (kv zeroK).size = (kv s).size := by rw [kv_size, kv_size]
 clear h hn hl hin
 have Hok : Hid (InsOk p.rl p.log p.cl 8 ⟨op, a, b, c, n⟩) := hok
 clear hok
 obtain ⟨C, hC⟩ : ∃ c, kv s = c := ⟨_, rfl⟩
 have HC : Hid (kv s = C) := hC
 rw [hC] at Hpl hiC hone hz16
 clear hC
 obtain ⟨cl, Hcl⟩ : ∃ x, Hid (p.cl = x) := ⟨_, rfl⟩
 rw [Hcl.out] at m1 m2 hat hcl
 have hi1 : ((at_ : Int) < cl) := by omega
 have hi2 : ((cl : Int) ≤ 200) := by omega
 obtain ⟨cb, Hcb⟩ : ∃ x, Hid (lo.cb = x) := ⟨_, rfl⟩
 obtain ⟨co, Hco⟩ : ∃ x, Hid (lo.co = x) := ⟨_, rfl⟩
 obtain ⟨cc, Hcc⟩ : ∃ x, Hid (lo.cc = x) := ⟨_, rfl⟩
 rw [Hcb.out, Hco.out] at m1 q0 q1 q2 q3 q4
 rw [Hcc.out] at m1
 obtain ⟨S, HS⟩ : ∃ S : World → Prop, Hid (∀ w', S w' ↔ More w w') := ⟨_, fun _ => Iff.rfl⟩
 have HS0 : S w.drew := (HS.out _).2 (More.refl _).drew
 have hne : Nonempty { w' // S w' } := ⟨⟨_, HS0⟩⟩
 have k1 : ∀ i : { w' // S w' }, i.val.cell? ⟨M, 1, none⟩ = some (.slice (some ⟨cb, co, none⟩) cl cc) := fun i => ((HS.out _).1 i.property).cell m1
 have k2 : ∀ i : { w' // S w' }, i.val.cell? ⟨M, 2, none⟩ = some (.slice (some ⟨B, 0, none⟩) cl cl) := fun i => ((HS.out _).1 i.property).cell m2
 have j0 : ∀ i : { w' // S w' }, i.val.cell? ⟨cb, co + at_ * 5, none⟩ = some (.int .i64 op) := fun i => ((HS.out _).1 i.property).cell q0
 have j1 : ∀ i : { w' // S w' }, i.val.cell? ⟨cb, co + at_ * 5 + 1, none⟩ = some (.int .i64 a) := fun i => ((HS.out _).1 i.property).cell q1
 have j2 : ∀ i : { w' // S w' }, i.val.cell? ⟨cb, co + at_ * 5 + 2, none⟩ = some (.int .i64 b) := fun i => ((HS.out _).1 i.property).cell q2
 have j3 : ∀ i : { w' // S w' }, i.val.cell? ⟨cb, co + at_ * 5 + 3, none⟩ = some (.int .i64 c) := fun i => ((HS.out _).1 i.property).cell q3
 have j4 : ∀ i : { w' // S w' }, i.val.cell? ⟨cb, co + at_ * 5 + 4, none⟩ = some (.int .i64 n) := fun i => ((HS.out _).1 i.property).cell q4
 clear m1 m2 q0 q1 q2 q3 q4
 go_enter Try.func64, Try.ntmps64
 go_wp2_with (fail)
 refine wp_region_left (S := S) (by kernel_rfl) HS0 ?_
 refine ol_take 0 rfl (by kernel_rfl) HS0 (by kernel_rfl) (fun K hK => ?_); go_simp; refine hK _ _ ?_; clear hK K
 refine ol_take 1 rfl (by kernel_rfl) HS0 (by kernel_rfl) (fun K hK => ?_); go_simp; refine hK _ _ ?_; clear hK K
 refine ol_take 2 rfl (by kernel_rfl) HS0 (by kernel_rfl) (fun K hK => ?_); go_simp; refine hK _ _ ?_; clear hK K
 refine ol_take 3 rfl (by kernel_rfl) HS0 (by kernel_rfl) (fun K hK => ?_); go_simp; refine hK _ _ ?_; clear hK K
 refine ol_take 4 rfl (by kernel_rfl) HS0 (by kernel_rfl) (fun K hK => ?_); go_simp; refine hK _ _ ?_; clear hK K
 refine ol_take 5 rfl (by kernel_rfl) HS0 (by kernel_rfl) (fun K hK => ?_); go_simp; refine hK _ _ ?_; clear hK K
 refine ol_take 6 rfl (by kernel_rfl) HS0 (by kernel_rfl) (fun K hK => ?_); go_simp; refine hK _ _ ?_; clear hK K
 refine ol_take 7 rfl (by kernel_rfl) HS0 (by kernel_rfl) (fun K hK => ?_); go_simp; refine hK _ _ ?_; clear hK K
 refine ol_take 8 rfl (by kernel_rfl) HS0 (by kernel_rfl) (fun K hK => ?_); go_simp; refine hK _ _ ?_; clear hK K
 refine ol_take 9 rfl (by kernel_rfl) HS0 (by kernel_rfl) (fun K hK => ?_); go_simp; refine hK _ _ ?_; clear hK K
 refine ol_take 10 rfl (by kernel_rfl) HS0 (by kernel_rfl) (fun K hK => ?_); go_simp; refine hK _ _ ?_; clear hK K
 refine ol_take 11 rfl (by kernel_rfl) HS0 (by kernel_rfl) (fun K hK => ?_); go_simp; refine hK _ _ ?_; clear hK K
 refine ol_take 12 rfl (by kernel_rfl) HS0 (by kernel_rfl) (fun K hK => ?_); go_simp; refine hK _ _ ?_; clear hK K
 refine ol_take 13 rfl (by kernel_rfl) HS0 (by kernel_rfl) (fun K hK => ?_); go_simp; refine hK _ _ ?_; clear hK K
 refine ol_take 14 rfl (by kernel_rfl) HS0 (by kernel_rfl) (fun K hK => ?_); go_simp; refine hK _ _ ?_; clear hK K
 refine ol_take 15 rfl (by kernel_rfl) HS0 (by kernel_rfl) (fun K hK => ⟨.agg C, fun i => exec_load_part 119 (.tmp 20) rfl B (at_ * 17) rfl C _ (Hpl.out _ ((HS.out _).1 i.property)) Try.underlying119 rfl hiC, ?_⟩); go_simp; refine hK _ _ ?_; clear hK K
 obtain ⟨wd, Hwd⟩ : ∃ wd : World, Hid (wd = w.drew) := ⟨_, rfl⟩
 have Hmwd : Hid (More w wd) := Hwd.out ▸ (More.refl w).drew
 rw [← Hwd.out]
 clear k1 k2 j0 j1 j2 j3 j4
 apply by_key
 ·intro key
  refine ol_two 16 17 (by kernel_rfl) ?_ ?_
  ·refine ol_step rfl (by kernel_rfl) (fun K hK => ?_); go_simp
   obtain ⟨w1, Hw1⟩ : ∃ w_ : World, Hid (w_ = wd.alloc (.cells #[.int .i64 0, .int .i64 0, .int .i64 0, .int .i64 0, .int .i64 0] 55)) := ⟨_, rfl⟩
   have m1 : More wd w1 := Hw1.out ▸ (More.refl _).alloc _ _
   have Hm1 : Hid (More w w1) := Hmwd.out.trans m1
   have Hb1 : Hid (Blk w1 wd.heap.size #[.int .i64 0, .int .i64 0, .int .i64 0, .int .i64 0, .int .i64 0] 55) := Hw1.out ▸ Blk.last _ _ _
   rw [← Hw1.out]
   clear m1 Hw1
   refine hK _ _ ((HS.out _).2 Hm1.out) ?_; clear hK K
   refine ol_one 17 (by kernel_rfl) ?_
   refine ol_step rfl (by kernel_rfl) (fun K hK => ?_); go_simp
   obtain ⟨w2, Hw2⟩ : ∃ w_ : World, Hid (w_ = w1.alloc (.cells #[.int .i64 0, .bool false, .int .i64 0, .bool false, .int .i64 0, .bool false, .int .i64 0, .bool false, .int .i64 0, .bool false, .int .i64 0, .bool false, .int .i64 0, .bool false, .int .i64 0, .bool false] 119)) := ⟨_, rfl⟩
   have m2 : More w1 w2 := Hw2.out ▸ (More.refl _).alloc _ _
   have Hm2 : Hid (More w w2) := Hm1.out.trans m2
   have Hb2 : Hid (Blk w2 w1.heap.size #[.int .i64 0, .bool false, .int .i64 0, .bool false, .int .i64 0, .bool false, .int .i64 0, .bool false, .int .i64 0, .bool false, .int .i64 0, .bool false, .int .i64 0, .bool false, .int .i64 0, .bool false] 119) := Hw2.out ▸ Blk.last _ _ _
   have Hb1' : Hid (Blk w2 wd.heap.size #[.int .i64 0, .int .i64 0, .int .i64 0, .int .i64 0, .int .i64 0] 55) := Hb1.out.more m2
   rw [← Hw2.out]
   clear m2 Hw2
   refine hK _ _ ((HS.out _).2 Hm2.out) ?_; clear hK K
   have F : Hid (LdB w (wd.heap.size) (w1.heap.size) w2) := ⟨Hb1'.out, Hb2.out, Hm2.out, Hmwd.out.size, Hm1.out.size, Nat.ne_of_lt Hb1.out.lt⟩
   refine ol_cast (listed' := #[true, true, true, true, true, true, true, true, true, true, true, true, true, true, true, true, true, true, false, false]) (by kernel_rfl) ?_
   clear Hb1 Hb2 Hb1' Hm2 Hm1
   generalize w1.heap.size = g5 at F ⊢
   generalize wd.heap.size = g4 at F ⊢
   clear w1
   revert w2 g5 g4
   exact key
  ·refine ol_step rfl (by kernel_rfl) (fun K hK => ?_); go_simp
   obtain ⟨w1, Hw1⟩ : ∃ w_ : World, Hid (w_ = wd.alloc (.cells #[.int .i64 0, .bool false, .int .i64 0, .bool false, .int .i64 0, .bool false, .int .i64 0, .bool false, .int .i64 0, .bool false, .int .i64 0, .bool false, .int .i64 0, .bool false, .int .i64 0, .bool false] 119)) := ⟨_, rfl⟩
   have m1 : More wd w1 := Hw1.out ▸ (More.refl _).alloc _ _
   have Hm1 : Hid (More w w1) := Hmwd.out.trans m1
   have Hb1 : Hid (Blk w1 wd.heap.size #[.int .i64 0, .bool false, .int .i64 0, .bool false, .int .i64 0, .bool false, .int .i64 0, .bool false, .int .i64 0, .bool false, .int .i64 0, .bool false, .int .i64 0, .bool false, .int .i64 0, .bool false] 119) := Hw1.out ▸ Blk.last _ _ _
   rw [← Hw1.out]
   clear m1 Hw1
   refine hK _ _ ((HS.out _).2 Hm1.out) ?_; clear hK K
   refine ol_one 16 (by kernel_rfl) ?_
   refine ol_step rfl (by kernel_rfl) (fun K hK => ?_); go_simp
   obtain ⟨w2, Hw2⟩ : ∃ w_ : World, Hid (w_ = w1.alloc (.cells #[.int .i64 0, .int .i64 0, .int .i64 0, .int .i64 0, .int .i64 0] 55)) := ⟨_, rfl⟩
   have m2 : More w1 w2 := Hw2.out ▸ (More.refl _).alloc _ _
   have Hm2 : Hid (More w w2) := Hm1.out.trans m2
   have Hb2 : Hid (Blk w2 w1.heap.size #[.int .i64 0, .int .i64 0, .int .i64 0, .int .i64 0, .int .i64 0] 55) := Hw2.out ▸ Blk.last _ _ _
   have Hb1' : Hid (Blk w2 wd.heap.size #[.int .i64 0, .bool false, .int .i64 0, .bool false, .int .i64 0, .bool false, .int .i64 0, .bool false, .int .i64 0, .bool false, .int .i64 0, .bool false, .int .i64 0, .bool false, .int .i64 0, .bool false] 119) := Hb1.out.more m2
   rw [← Hw2.out]
   clear m2 Hw2
   refine hK _ _ ((HS.out _).2 Hm2.out) ?_; clear hK K
   have F : Hid (LdB w (w1.heap.size) (wd.heap.size) w2) := ⟨Hb2.out, Hb1'.out, Hm2.out, Hm1.out.size, Hmwd.out.size, Nat.ne_of_gt Hb1.out.lt⟩
   refine ol_cast (listed' := #[true, true, true, true, true, true, true, true, true, true, true, true, true, true, true, true, true, true, false, false]) (by kernel_rfl) ?_
   exact key _ _ _ F
 ·intro w1 g5 g4 F
  obtain ⟨w2, Hw2⟩ : ∃ w_ : World, Hid (w_ = w1.setRow g4 #[.int .i64 op, .int .i64 a, .int .i64 b, .int .i64 c, .int .i64 n]) := ⟨_, rfl⟩
  obtain ⟨w3, Hw3⟩ : ∃ w_ : World, Hid (w_ = w2.setRow g5 C) := ⟨_, rfl⟩
  have F2 : Hid (Blk w2 g4 #[.int .i64 op, .int .i64 a, .int .i64 b, .int .i64 c, .int .i64 n] 55 ∧ Blk w2 g5 (kv zeroK) 119 ∧ More w w2) := by
   rw [Hw2.out]
   exact ⟨F.out.b4.setRow _, F.out.b5.setRow_other F.out.ne.symm _, F.out.up.setRow F.out.lt4 _⟩
  have F3 : Hid (LdF g4 g5 ⟨op, a, b, c, n⟩ s w3 ∧ More w w3) := by
   rw [Hw3.out]
   refine ⟨⟨F2.out.1.setRow_other F.out.ne _, ?_⟩, F2.out.2.2.setRow F.out.lt5 _⟩
   rw [HC.out]
   exact F2.out.2.1.setRow _
  refine ol_one 18 (by kernel_rfl) ?_
  refine ol_step rfl (by kernel_rfl) (fun K hK => ?_)
  refine wp_store_row 55 (.tmp 4) (.tmp 13) rfl g4 #[.int .i64 op, .int .i64 a, .int .i64 b, .int .i64 c, .int .i64 n] rfl rfl 55 #[.int .i64 0, .int .i64 0, .int .i64 0, .int .i64 0, .int .i64 0] F.out.b4 info67 rfl (by simp [Value.oneCell']) ?_
  rw [← Hw2.out]
  refine hK _ _ ((HS.out _).2 F2.out.2.2) ?_; clear hK K
  refine ol_one 19 (by kernel_rfl) ?_
  refine ol_step rfl (by kernel_rfl) (fun K hK => ?_)
  refine wp_store_row 119 (.tmp 5) (.tmp 21) rfl g5 C rfl rfl 119 _ F2.out.2.1 hiC hz16 hone ?_
  rw [← Hw3.out]
  refine hK _ _ ((HS.out _).2 F3.out.2) ?_; clear hK K
  refine ol_done (by kernel_rfl) ?_
  clear hne HS0
  have i0 : w3.cell? ⟨g4, 0, none⟩ = some (.int .i64 op) := F3.out.1.b4.cell rfl
  have i1 : w3.cell? ⟨g4, 1, none⟩ = some (.int .i64 a) := F3.out.1.b4.cell rfl
  have i2 : w3.cell? ⟨g4, 2, none⟩ = some (.int .i64 b) := F3.out.1.b4.cell rfl
  have i3 : w3.cell? ⟨g4, 3, none⟩ = some (.int .i64 c) := F3.out.1.b4.cell rfl
  have i4 : w3.cell? ⟨g4, 4, none⟩ = some (.int .i64 n) := F3.out.1.b4.cell rfl
  have Hck3 : Hid (Ck w0 p lo M B l td tv w3) := Hck.out.more F3.out.2
  have hb5 : w3.heap[g5]? = some (.cells C 119 (0, 0)) := by
   have := F3.out.1.b5
   rw [HC.out] at this
   exact this
  by_cases h9 : op = 9
  ·subst h9
   have hL : leadsK p at_ s = [] := by unfold leadsK; rw [HN.out.2.2.2]; simp
   have Hend : Hid (P (.returned (.tuple #[])) w3) := by
    refine HP.out l td tv w3 ?_ Hck3.out (Keeps.of F3.out.2)
    rw [hL]
    exact ⟨rfl, rfl⟩
   clear hL HP
   go_wp2
   go_end0
   exact Hend.out
  by_cases h7 : op = 7
  ·subst h7
   have hpl := Hok.out
   unfold InsOk Plc at hpl
   simp at hpl
   obtain ⟨nn, rfl⟩ : ∃ nn : Nat, n = nn := ⟨n.toNat, by omega⟩
   have hL : leadsK p at_ s = [(nn, s)] := by unfold leadsK; rw [HN.out.2.2.2]; simp
   have Hend : Hid (∀ l' td' tv' w', ComeK p l td (nn, s) l' td' → Ck w0 p lo M B l' td' tv' w' → Keeps w w' → P (.returned (.tuple #[])) w') := by
    intro l' td' tv' w' h1 h2 h3
    refine HP.out l' td' tv' w' ?_ h2 h3
    rw [hL]
    exact ⟨l', td', h1, rfl, rfl⟩
   have cc : Calls Try.prog 63 #[.pointer (some ⟨M, 0, none⟩), .int .i64 (nn : Int), .agg C] w3 fun e w' => e = .returned (.tuple #[]) ∧ Keeps w3 w' ∧ ∃ l' td' tv', ComeK p l td (nn, s) l' td' ∧ Ck w0 p lo M B l' td' tv' w' := by
    have := come_calls Hck3.out HN.out.2.1 (Nat.le_trans HN.out.1 (by omega)) (nn, s)
    rw [HC.out] at this
    exact this
   clear hL HP hpl
   go_wp2_with (first | (refine wpList_load_row rfl 119 (.tmp 5) rfl g5 rfl 119 C (0, 0) _ hb5 Try.underlying119 rfl hiC ?_))
   refine cc.mono ?_
   rintro e w4 ⟨rfl, kp4, l', td', tv', h1, h2⟩
   have Hf : Hid (P (.returned (.tuple #[])) w4) := Hend.out _ _ _ _ h1 h2 ((Keeps.of F3.out.2).trans kp4)
   clear kp4 h1 h2 cc Hend
   go_wp2
   go_end0
   exact Hf.out
  by_cases h8 : op = 8
  ·subst h8
   have hpl := Hok.out
   unfold InsOk Plc Reg at hpl
   simp at hpl
   have ha0 : 0 ≤ a := by omega
   have ha1 : a < 8 := by omega
   have hb0 : 0 ≤ b := by omega
   have hb1 : b < 8 := by omega
   have hc4 : c = 1 ∨ c = 2 ∨ c = 3 ∨ c = 4 := by omega
   obtain ⟨nn, rfl⟩ : ∃ nn : Nat, n = nn := ⟨n.toNat, by omega⟩
   obtain ⟨y, hy⟩ : ∃ y, yesK ⟨8, a, b, c, nn⟩ s = y := ⟨_, rfl⟩
   obtain ⟨z, hz⟩ : ∃ z, noK ⟨8, a, b, c, nn⟩ s = z := ⟨_, rfl⟩
   have hL : leadsK p at_ s = [(nn, y), (at_ + 1, z)] := by unfold leadsK; rw [HN.out.2.2.2, hy, hz]; simp
   have c1 : ∀ w : World, Calls Try.prog 73 #[.agg (kv s), .int .i64 c, .int .i64 a, .int .i64 b] w fun e w' => e = .returned (.agg (kv y)) ∧ More w w' := fun w => by
    have := where_calls s c a b w hc4 ha0 ha1 hb0 hb1
    rw [yes_wh ⟨8, a, b, c, nn⟩ s hc4, hy] at this
    exact this
   obtain ⟨oc, hoc⟩ : ∃ x, oppI c = x := ⟨_, rfl⟩
   have c3 : ∀ w : World, Calls Try.prog 74 #[.int .i64 c] w fun e w' => e = .returned (.int .i64 oc) ∧ w' = w := fun w => hoc ▸ opposite_calls c w
   have c2 : ∀ w : World, Calls Try.prog 73 #[.agg (kv s), .int .i64 oc, .int .i64 a, .int .i64 b] w fun e w' => e = .returned (.agg (kv z)) ∧ More w w' := fun w => by
    have := where_calls s (oppI c) a b w (opp_in c hc4) ha0 ha1 hb0 hb1
    rw [no_wh ⟨8, a, b, c, nn⟩ s hc4, hz, hoc] at this
    exact this
   have Hend : Hid (∀ l1 td1 l' td' tv' w', ComeK p l td (nn, y) l1 td1 → ComeK p l1 td1 (at_ + 1, z) l' td' → Ck w0 p lo M B l' td' tv' w' → Keeps w w' → P (.returned (.tuple #[])) w') := by
    intro l1 td1 l' td' tv' w' h1 h1' h2 h3
    refine HP.out l' td' tv' w' ?_ h2 h3
    rw [hL]
    exact ⟨l1, td1, h1, l', td', h1', rfl, rfl⟩
   rw [HC.out] at c1 c2
   obtain ⟨Y, hY⟩ : ∃ x, kv y = x := ⟨_, rfl⟩
   obtain ⟨X, hX⟩ : ∃ x, kv z = x := ⟨_, rfl⟩
   have HYX : Hid (kv y = Y ∧ kv z = X) := ⟨hY, hX⟩
   rw [hY] at c1
   rw [hX] at c2
   clear hL HP hpl hy hz hoc hc4 hY hX
   obtain ⟨T, HT⟩ : ∃ T : World → Prop, Hid (∀ w', T w' ↔ LdF g4 g5 ⟨8, a, b, c, nn⟩ s w') := ⟨_, fun _ => Iff.rfl⟩
   have HT0 : T w3.drew := (HT.out _).2 (F3.out.1.more (More.refl _).drew)
   have hne : Nonempty { w' // T w' } := ⟨⟨_, HT0⟩⟩
   have k1 : ∀ i : { w' // T w' }, i.val.cell? ⟨g4, 1, none⟩ = some (.int .i64 a) := fun i => ((HT.out _).1 i.property).b4.cell rfl
   have k2 : ∀ i : { w' // T w' }, i.val.cell? ⟨g4, 2, none⟩ = some (.int .i64 b) := fun i => ((HT.out _).1 i.property).b4.cell rfl
   have k3 : ∀ i : { w' // T w' }, i.val.cell? ⟨g4, 3, none⟩ = some (.int .i64 c) := fun i => ((HT.out _).1 i.property).b4.cell rfl
   have k4 : ∀ i : { w' // T w' }, i.val.cell? ⟨g4, 4, none⟩ = some (.int .i64 (nn : Int)) := fun i => ((HT.out _).1 i.property).b4.cell rfl
   have Hk5 : Hid (∀ i : { w' // T w' }, ∀ j v, C[j]? = some v → i.val.cell? ⟨g5, 0 + j, none⟩ = some v) := fun i j v e => by
    rw [Nat.zero_add]
    have hb := ((HT.out _).1 i.property).b5
    rw [HC.out] at hb
    exact hb.cell e
   have hat63 : wrap64 ((at_ : Int) + 1) = (at_ : Int) + 1 := by unfold wrap64; omega
   have hat64 : IntKind.i64.wrap ((at_ : Int) + 1) = (at_ : Int) + 1 := by rw [IntKind.wrap_i64]; omega
   go_wp2_with (fail)
   refine wp_region_ord (S := T) [(0, true), (1, true), (2, true), (3, true), (4, true), (5, true), (6, true), (7, true), (8, true), (9, true), (10, false), (11, false)] (by kernel_rfl) (by kernel_rfl) (by kernel_rfl) HT0 ?_
   iterate 3 (refine wpOrd_take rfl (by kernel_rfl) (fun K hK => ?_); go_simp; refine hK _ _ ?_; clear hK K)
   refine wpOrd_take rfl (by kernel_rfl) (fun K hK => ⟨.agg C, fun i => exec_load_part 119 (.tmp 5) rfl g5 0 rfl C _ (Hk5.out i) Try.underlying119 rfl hiC, ?_⟩); go_simp; refine hK _ _ ?_; clear hK K
   iterate 6 (refine wpOrd_take rfl (by kernel_rfl) (fun K hK => ?_); go_simp; refine hK _ _ ?_; clear hK K)
   refine wpOrd_busy rfl (by kernel_rfl) (fun K hK => ?_); go_simp
   refine (c1 _).mono ?_
   rintro e w4 ⟨rfl, m_⟩
   have Hm4 : Hid (More w3 w4) := (More.refl w3).drew.trans m_
   clear m_
   go_simp
   refine hK _ _ ((HT.out _).2 (F3.out.1.more Hm4.out)) ?_; clear hK K
   have cc : Calls Try.prog 63 #[.pointer (some ⟨M, 0, none⟩), .int .i64 (nn : Int), .agg Y] w4 fun e w' => e = .returned (.tuple #[]) ∧ Keeps w4 w' ∧ ∃ l' td' tv', ComeK p l td (nn, y) l' td' ∧ Ck w0 p lo M B l' td' tv' w' := by
    have := come_calls (Hck3.out.more Hm4.out) HN.out.2.1 (Nat.le_trans HN.out.1 (by omega)) (nn, y)
    rw [HYX.out.1] at this
    exact this
   refine wpOrd_busy rfl (by kernel_rfl) (fun K hK => ?_); go_simp
   refine cc.mono ?_
   rintro e w5 ⟨rfl, kp5, l1, td1, tv1, g1, g2⟩
   have Hkp5 : Hid (Keeps w w5) := ((Keeps.of F3.out.2).trans (Keeps.of Hm4.out)).trans kp5
   have HF5 : Hid (LdF g4 g5 ⟨8, a, b, c, nn⟩ s w5) := (F3.out.1.more Hm4.out).keeps kp5
   have Hc1 : Hid (ComeK p l td (nn, y) l1 td1) := g1
   have Hck5 : Hid (Ck w0 p lo M B l1 td1 tv1 w5) := g2
   clear g1 g2 kp5 cc
   go_simp
   refine hK _ _ ((HT.out _).2 HF5.out) ?_; clear hK K
   refine wpOrd_done ?_
   clear i0 i1 i2 i3 i4 c1 HT0
   have HT0 : T w5.drew := (HT.out _).2 (HF5.out.more (More.refl _).drew)
   go_wp2_with (fail)
   refine wp_region_ord (S := T) [(0, true), (1, true), (2, true), (3, true), (4, true), (5, true), (7, true), (8, true), (9, true), (10, true), (6, false), (11, false), (12, false)] (by kernel_rfl) (by kernel_rfl) (by kernel_rfl) HT0 ?_
   iterate 3 (refine wpOrd_take rfl (by kernel_rfl) (fun K hK => ?_); go_simp; refine hK _ _ ?_; clear hK K)
   refine wpOrd_take rfl (by kernel_rfl) (fun K hK => ⟨.agg C, fun i => exec_load_part 119 (.tmp 5) rfl g5 0 rfl C _ (Hk5.out i) Try.underlying119 rfl hiC, ?_⟩); go_simp; refine hK _ _ ?_; clear hK K
   iterate 6 (refine wpOrd_take rfl (by kernel_rfl) (fun K hK => ?_); go_simp; refine hK _ _ ?_; clear hK K)
   refine wpOrd_busy rfl (by kernel_rfl) (fun K hK => ?_); go_simp
   refine (c3 _).mono ?_
   rintro e w6 ⟨rfl, rfl⟩
   go_simp
   refine hK _ _ HT0 ?_; clear hK K
   refine wpOrd_busy rfl (by kernel_rfl) (fun K hK => ?_); go_simp
   refine (c2 _).mono ?_
   rintro e w7 ⟨rfl, m_⟩
   have Hm7 : Hid (More w5 w7) := (More.refl w5).drew.trans m_
   clear m_
   go_simp
   refine hK _ _ ((HT.out _).2 (HF5.out.more Hm7.out)) ?_; clear hK K
   have cc : Calls Try.prog 63 #[.pointer (some ⟨M, 0, none⟩), .int .i64 ((at_ : Int) + 1), .agg X] w7 fun e w' => e = .returned (.tuple #[]) ∧ Keeps w7 w' ∧ ∃ l' td' tv', ComeK p l1 td1 (at_ + 1, z) l' td' ∧ Ck w0 p lo M B l' td' tv' w' := by
    have := come_calls (Hck5.out.more Hm7.out) HN.out.2.1 (by have := Hc1.out.len; have := HN.out.1; omega) (at_ + 1, z)
    rw [HYX.out.2] at this
    exact this
   refine wpOrd_busy rfl (by kernel_rfl) (fun K hK => ?_); go_simp
   try rw [hat64]
   refine cc.mono ?_
   rintro e w8 ⟨rfl, kp8, l2, td2, tv2, g1, g2⟩
   have Hf : Hid (P (.returned (.tuple #[])) w8) := Hend.out _ _ _ _ _ _ Hc1.out g1 g2 ((Hkp5.out.trans (Keeps.of Hm7.out)).trans kp8)
   have HF8 : Hid (LdF g4 g5 ⟨8, a, b, c, nn⟩ s w8) := (HF5.out.more Hm7.out).keeps kp8
   clear g1 g2 kp8 cc
   go_simp
   refine hK _ _ ((HT.out _).2 HF8.out) ?_; clear hK K
   refine wpOrd_done ?_
   clear c2 c3 HT0 hne k1 k2 k3 k4 Hend
   go_wp2
   go_end0
   exact Hf.out
  ·have e9 : (op == 9) = false := by simp [h9]
   have e7 : (op == 7) = false := by simp [h7]
   have e8 : (op == 8) = false := by simp [h8]
   obtain ⟨x, hx⟩ : ∃ x, nextK p ⟨op, a, b, c, n⟩ s = x := ⟨_, rfl⟩
   have hL : leadsK p at_ s = [(at_ + 1, x)] := by unfold leadsK; rw [HN.out.2.2.2]; dsimp only; rw [if_neg h7, if_neg h9, if_neg h8, hx]
   have c1 : Calls Try.prog 75 #[.pointer (some ⟨M, 0, none⟩), .agg #[.int .i64 op, .int .i64 a, .int .i64 b, .int .i64 c, .int .i64 n], .agg (kv s)] w3 fun e w' => e = .returned (.agg (kv x)) ∧ More w3 w' := by
    have := behind_calls p s M lo ⟨op, a, b, c, n⟩ w3 (Hck3.out.box.cell (j := 0) rfl) Hck3.out.pinw Hok.out ⟨n0, n1⟩ h7 h8 h9
    rw [hx] at this
    exact this
   have Hend : Hid (∀ l' td' tv' w', ComeK p l td (at_ + 1, x) l' td' → Ck w0 p lo M B l' td' tv' w' → Keeps w w' → P (.returned (.tuple #[])) w') := by
    intro l' td' tv' w' h1 h2 h3
    refine HP.out l' td' tv' w' ?_ h2 h3
    rw [hL]
    exact ⟨l', td', h1, rfl, rfl⟩
   obtain ⟨X, hX⟩ : ∃ y, kv x = y := ⟨_, rfl⟩
   have HX : Hid (kv x = X) := hX
   rw [HC.out, hX] at c1
   have hat63 : wrap64 ((at_ : Int) + 1) = (at_ : Int) + 1 := by unfold wrap64; omega
   clear hL HP hx hX h7 h8 h9
   go_wp2_with (first | (refine wpList_load_row rfl 119 (.tmp 5) rfl g5 rfl 119 C (0, 0) _ hb5 Try.underlying119 rfl hiC ?_))
   refine c1.mono ?_
   rintro e w4 ⟨rfl, m_⟩
   have Hm4 : Hid (More w3 w4) := m_
   clear m_
   have cc : Calls Try.prog 63 #[.pointer (some ⟨M, 0, none⟩), .int .i64 ((at_ : Int) + 1), .agg X] w4 fun e w' => e = .returned (.tuple #[]) ∧ Keeps w4 w' ∧ ∃ l' td' tv', ComeK p l td (at_ + 1, x) l' td' ∧ Ck w0 p lo M B l' td' tv' w' := by
    have := come_calls (Hck3.out.more Hm4.out) HN.out.2.1 (Nat.le_trans HN.out.1 (by omega)) (at_ + 1, x)
    rw [HX.out] at this
    exact this
   go_wp2_with (fail)
   refine cc.mono ?_
   rintro e w5 ⟨rfl, kp5, l', td', tv', h1, h2⟩
   have Hf : Hid (P (.returned (.tuple #[])) w5) := Hend.out _ _ _ _ h1 h2 (((Keeps.of F3.out.2).trans (Keeps.of Hm4.out)).trans kp5)
   clear kp5 h1 h2 cc Hend c1
   go_wp2
   go_end0
   exact Hf.out

theorem lead_calls {w0 : World} {p : Prg} {lo : Loc} {M B : Nat} {l : KV} {td : List Nat} {tv : Value} {w : World} (h : Ck w0 p lo M B l td tv w) (hp : p.Ok 200 8) (hnr : ∀ i, i < p.cl → -9223372036854775808 ≤ (p.ins i).n ∧ (p.ins i).n ≤ 9223372036854775807) (hn : td.length ≤ 99990) (at_ : Nat) (hat : at_ < p.cl) (s : KS) (hl : l at_ = some s) :
  Calls Try.prog 64 #[.pointer (some ⟨M, 0, none⟩), .int .i64 at_] w fun e w' => e = .returned (.tuple #[]) ∧ Keeps w w' ∧ ∃ l' td' tv', ComeL p (leadsK p at_ s) l td l' td' ∧ Ck w0 p lo M B l' td' tv' w' := by
 have hr := hnr at_ hat
 have hi := hp.2.2.2 at_ hat
 obtain ⟨i, hin⟩ : ∃ i, p.ins at_ = i := ⟨_, rfl⟩
 obtain ⟨op, a, b, c, n⟩ := i
 rw [hin] at hr hi
 exact lead_all h hp.2.2.1 hn at_ hat s hl op a b c n hin hi hr.1 hr.2
theorem ComeL.todo {p : Prg} {a : Nat} : ∀ (R : List (Nat × KS)) {l l' : KV} {td td' : List Nat}, Todo p l td a R → ComeL p R l td l' td' → Todo p l' td' a [] ∧ rankV l p.cl ≤ rankV l' p.cl ∧ td'.length + rankV l p.cl ≤ td.length + rankV l' p.cl
 | [], l, l', td, td', h, ⟨h1, h2⟩ => by subst h1; subst h2; exact ⟨h, Nat.le_refl _, Nat.le_refl _⟩
 | x :: R, l, l', td, td', h, ⟨l1, td1, h1, h2⟩ => by
  obtain ⟨k1, k2, k3, _⟩ := h.next h1
  obtain ⟨j1, j2, j3⟩ := ComeL.todo R k1 h2
  exact ⟨j1, by omega, by omega⟩

theorem list_last : ∀ (l : List Nat), l ≠ [] → ∃ k a, l = k ++ [a]
 | [], h => absurd rfl h
 | x :: l, _ => by
  by_cases e : l = []
  ·subst e; exact ⟨[], x, rfl⟩
  ·obtain ⟨k, a, h⟩ := list_last l e
   exact ⟨x :: k, a, by rw [h]; rfl⟩

set_option maxHeartbeats 2000000 in
theorem learn_calls {w0 : World} {p : Prg} {lo : Loc} {M B : Nat} {w : World} (h : Ck w0 p lo M B (fun _ => none) [] (.slice none 0 0) w) (hp : p.Ok 200 8) (hnr : ∀ i, i < p.cl → -9223372036854775808 ≤ (p.ins i).n ∧ (p.ins i).n ≤ 9223372036854775807) :
  Calls Try.prog 47 #[.pointer (some ⟨M, 0, none⟩)] w fun e w' => e = .returned (.tuple #[]) ∧ Keeps w w' ∧ ∃ l tv, Known p l ∧ Ck w0 p lo M B l [] tv w' := by
 suffices hP : ∀ P : Ending → World → Prop, (∀ l tv w', Known p l → Ck w0 p lo M B l [] tv w' → Keeps w w' → P (.returned (.tuple #[])) w') → Calls Try.prog 47 #[.pointer (some ⟨M, 0, none⟩)] w P from hP _ (fun l tv w' a b c => ⟨rfl, c, l, tv, a, b⟩)
 intro P hP0
 have HP : Hid (∀ l tv w', Known p l → Ck w0 p lo M B l [] tv w' → Keeps w w' → P (.returned (.tuple #[])) w') := hP0
 clear hP0
 have Hp : Hid (p.Ok 200 8 ∧ (∀ i, i < p.cl → -9223372036854775808 ≤ (p.ins i).n ∧ (p.ins i).n ≤ 9223372036854775807) ∧ 0 < p.cl ∧ p.cl ≤ 200) := ⟨hp, hnr, hp.2.1, hp.2.2.1⟩
 have cc : Calls Try.prog 63 #[.pointer (some ⟨M, 0, none⟩), .int .i64 0, .agg #[.int .i64 0, .bool false, .int .i64 0, .bool false, .int .i64 0, .bool false, .int .i64 0, .bool false, .int .i64 0, .bool false, .int .i64 0, .bool false, .int .i64 0, .bool false, .int .i64 0, .bool false]] w fun e w' => e = .returned (.tuple #[]) ∧ Keeps w w' ∧ ∃ l' td' tv', ComeK p (fun _ => none) [] (0, zeroK) l' td' ∧ Ck w0 p lo M B l' td' tv' w' := by
  have := come_calls h hp.2.2.1 (by simp) (0, zeroK)
  rw [kv_zero] at this
  exact this
 clear h hp hnr
 go_enter Try.func47, Try.ntmps47
 go_wp2_with (fail)
 refine cc.mono ?_
 rintro e w1 ⟨rfl, kp1, l1, td1, tv1, g1, g2⟩
 have Ht1 : Hid (Todo p l1 td1 0 []) := Todo.start Hp.out.2.2.1 g1
 have Hck1 : Hid (Ck w0 p lo M B l1 td1 tv1 w1 ∧ Keeps w w1) := ⟨g2, kp1⟩
 have Hl1 : Hid (td1.length ≤ 1) := g1.len
 clear kp1 g1 g2 cc
 go_wp2_with (fail)
 go_loopg [] (290 * p.cl + 2) (fun g wr => ∃ (l : KV) (td : List Nat) (tv : Value) (b : Nat), Hid (Ck w0 p lo M B l td tv wr ∧ Keeps w wr ∧ Todo p l td b [] ∧ 290 * p.cl + td.length < g + 2 * rankV l p.cl))
 case atStart => exact ⟨l1, td1, tv1, 0, Hck1.out.1, Hck1.out.2, Ht1.out, by have := Hl1.out; omega⟩
 case round =>
  obtain ⟨l, td, tv, b, Hr⟩ := hrel
  by_cases htd : td = []
  ·subst htd
   have Hend : Hid (P (.returned (.tuple #[])) wr) := HP.out l tv wr Hr.out.2.2.1.known Hr.out.1 Hr.out.2.1
   obtain ⟨ta, tc, rfl⟩ := Hr.out.1.tform
   have y3 : wr.cell? ⟨M, 3, none⟩ = some (.slice ta 0 tc) := Hr.out.1.box.cell (j := 3) rfl
   clear HP Hr
   go_wp2
   go_end0
   exact Hend.out
  ·obtain ⟨td0, a, rfl⟩ := list_last td htd
   clear htd
   obtain ⟨m, Hm⟩ : ∃ m, Hid (td0.length = m) := ⟨_, rfl⟩
   have hlen : (td0 ++ [a]).length = m + 1 := by rw [List.length_append, Hm.out]; rfl
   have hown := Hr.out.1.own
   rw [hlen] at hown
   obtain ⟨T, cap, htv, hT1, hT2⟩ := hown.form (by omega)
   subst htv
   have hcap : m + 1 ≤ cap := by
    rcases hown.2 with ⟨h0, _⟩ | ⟨g', cap', cur, hv, _, _, h5, _⟩
    ·cases h0
    ·cases hv; exact h5
   have hq : wr.cell? ⟨T, m, none⟩ = some (.int .i64 (a : Int)) := by
    rw [World.ownsRow.cellAt hown m (by omega), List.map_append, List.getElem?_append_right (by rw [List.length_map, Hm.out]; omega), List.length_map, Hm.out, Nat.sub_self]
    rfl
   have y3 : wr.cell? ⟨M, 3, none⟩ = some (.slice (some ⟨T, 0, none⟩) (m + 1) cap) := Hr.out.1.box.cell (j := 3) rfl
   have f3 : wr.frozen? ⟨M, 3, none⟩ = false := Hr.out.1.box.frozen 3
   have hbig : m + 1 ≤ 29000 := by
    have h1 := Hr.out.2.2.1.short
    have h2 := rankV_le Hr.out.2.2.1.on.norm p.cl (Nat.le_refl _)
    have h3 := Hp.out.2.2.2
    rw [hlen] at h1
    omega
   have hmi : (m : Int) + 1 ≤ 29000 := by omega
   have hmc : (m : Int) ≤ cap := by omega
   obtain ⟨w2, Hw2⟩ : ∃ w_ : World, Hid (w_ = wr.setCell ⟨M, 3, none⟩ (.slice (some ⟨T, 0, none⟩) m cap)) := ⟨_, rfl⟩
   have Hck2 : Hid (Ck w0 p lo M B l td0 (.slice (some ⟨T, 0, none⟩) m cap) w2) := by
    rw [Hw2.out]
    refine Hr.out.1.set ⟨rfl, rfl, rfl, Nat.le_refl _, fun _ _ _ => rfl⟩ ?_
    rw [Hm.out]
    rw [List.map_append] at hown
    exact ownsRow_pop (by rw [List.length_map, Hm.out, Nat.mul_one]) hown
   have Hkp2 : Hid (Keeps w w2) := by
    rw [Hw2.out]
    exact Hr.out.2.1.trans (Hr.out.1.set_keeps ⟨rfl, rfl, rfl, Nat.le_refl _, fun _ _ _ => rfl⟩)
   obtain ⟨hac, s, hs⟩ := Hr.out.2.2.1.come a (by simp)
   have Htodo : Hid (Todo p l td0 a (leadsK p a s)) := Hr.out.2.2.1.pop Hp.out.1 hs
   have Hmeas : Hid (290 * p.cl + (m + 1) < gk + 2 * rankV l p.cl) := by
    have := Hr.out.2.2.2
    rw [hlen] at this
    exact this
   have cc : Calls Try.prog 64 #[.pointer (some ⟨M, 0, none⟩), .int .i64 (a : Int)] w2 fun e w' => e = .returned (.tuple #[]) ∧ Keeps w2 w' ∧ ∃ l' td' tv', ComeL p (leadsK p a s) l td0 l' td' ∧ Ck w0 p lo M B l' td' tv' w' :=
    lead_calls Hck2.out Hp.out.1 Hp.out.2.1 (by rw [Hm.out]; omega) a hac s hs
   clear hown hT1 hT2 hlen hs hac Hr hbig
   go_wp2_with (fail)
   rw [← Hw2.out]
   refine cc.mono ?_
   rintro e w3 ⟨rfl, kp3, l', td', tv', g1, g2⟩
   obtain ⟨t1, t2, t3⟩ := ComeL.todo _ Htodo.out g1
   have Hkp3 : Hid (Keeps w w3) := Hkp2.out.trans kp3
   have Hck3 : Hid (Ck w0 p lo M B l' td' tv' w3) := g2
   have Ht3 : Hid (Todo p l' td' a []) := t1
   have Hms : Hid (290 * p.cl + td'.length + 1 < gk + 2 * rankV l' p.cl) := by
    have h1 := Hmeas.out
    have h2 := Hm.out
    show _ < _
    omega
   have Hrk : Hid (rankV l' p.cl ≤ 145 * p.cl) := rankV_le t1.on.norm p.cl (Nat.le_refl _)
   clear kp3 g1 g2 t1 t2 t3 cc y3 f3 hq
   cases gk with
   | zero =>
    have h1 := Hms.out
    have h2 := Hrk.out
    omega
   | succ g =>
    go_wp2
    go_roundg g
    case measure => omega
    case rel => exact ⟨l', td', tv', a, Hck3.out, Hkp3.out, Ht3.out, by have h1 := Hms.out; omega⟩
set_option maxHeartbeats 1000000 in
theorem tells_3 (M : Nat) (C : Array Value) (a b c n : Int) (w : World) (hC16 : C.size = 16) (xa xb : Bool) (a0 : 0 ≤ a) (a1 : a < 8) (b0 : 0 ≤ b) (b1 : b < 8) (ka : C[a.toNat * 2 + 1]? = some (.bool xa)) (kb : C[b.toNat * 2 + 1]? = some (.bool xb)) :
    Calls Try.prog 78 #[.pointer (some ⟨M, 0, none⟩), .agg #[.int .i64 3, .int .i64 a, .int .i64 b, .int .i64 c, .int .i64 n], .agg C] w fun e w' => e = .returned (.bool (xb)) ∧ More w w' := by
  obtain ⟨W, HW⟩ : ∃ W : World, Hid (W = (w.alloc (.cells #[.int .i64 3, .int .i64 a, .int .i64 b, .int .i64 c, .int .i64 n] 55)).alloc (.cells C 119)) := ⟨_, rfl⟩
  have HB : Hid (Blk W w.heap.size #[.int .i64 3, .int .i64 a, .int .i64 b, .int .i64 c, .int .i64 n] 55 ∧ Blk W (w.heap.size + 1) C 119 ∧ More w W) := by
    rw [HW.out]
    exact ⟨(Blk.last _ _ _).alloc _ _, (by simpa using Blk.last (w.alloc (.cells #[.int .i64 3, .int .i64 a, .int .i64 b, .int .i64 c, .int .i64 n] 55)) C 119), ((More.refl _).alloc _ _).alloc _ _⟩
  obtain ⟨S, HS⟩ : ∃ S : World → Prop, Hid (∀ w', S w' ↔ More W w') := ⟨_, fun _ => Iff.rfl⟩
  have HS0 : S W.drew := (HS.out _).2 (More.refl _).drew
  have hne : Nonempty { w' // S w' } := ⟨⟨_, HS0⟩⟩
  have k1 : ∀ i : { w' // S w' }, i.val.cell? ⟨w.heap.size, 1, none⟩ = some (.int .i64 a) := fun i => (HB.out.1.more ((HS.out _).1 i.property)).cell rfl
  have k2 : ∀ i : { w' // S w' }, i.val.cell? ⟨w.heap.size, 2, none⟩ = some (.int .i64 b) := fun i => (HB.out.1.more ((HS.out _).1 i.property)).cell rfl
  have k3 : ∀ i : { w' // S w' }, i.val.cell? ⟨w.heap.size + 1, a.toNat * 2 + 1, none⟩ = some (.bool xa) := fun i => (HB.out.2.1.more ((HS.out _).1 i.property)).cell ka
  have k4 : ∀ i : { w' // S w' }, i.val.cell? ⟨w.heap.size + 1, b.toNat * 2 + 1, none⟩ = some (.bool xb) := fun i => (HB.out.2.1.more ((HS.out _).1 i.property)).cell kb
  obtain ⟨wd, Hwd⟩ : ∃ w_ : World, Hid (w_ = W.drew) := ⟨_, rfl⟩
  have Hmd : Hid (More w wd ∧ Blk wd w.heap.size #[.int .i64 3, .int .i64 a, .int .i64 b, .int .i64 c, .int .i64 n] 55 ∧ Blk wd (w.heap.size + 1) C 119) := by
    have m : More W wd := Hwd.out ▸ (More.refl W).drew
    exact ⟨HB.out.2.2.trans m, HB.out.1.more m, HB.out.2.1.more m⟩
  have i0 : wd.cell? ⟨w.heap.size, 0, none⟩ = some (.int .i64 3) := Hmd.out.2.1.cell rfl
  have i3 : wd.cell? ⟨w.heap.size, 3, none⟩ = some (.int .i64 c) := Hmd.out.2.1.cell rfl
  clear ka kb
  go_enter Try.func78, Try.ntmps78
  go_wp2_with (fail)
  rw [← HW.out]
  clear hC16
  refine wp_region_ord (S := S) [(0, true), (1, true), (2, true), (3, true), (4, true), (5, true), (6, true), (7, true), (8, true), (9, true), (10, true), (11, true)] (by kernel_rfl) (by kernel_rfl) (by kernel_rfl) HS0 ?_
  iterate 12 (refine wpOrd_take rfl (by kernel_rfl) (fun K hK => ?_); go_simp; refine hK _ _ ?_; clear hK K)
  refine wpOrd_done ?_
  rw [← Hwd.out]
  clear k1 k2 k3 k4 hne HS0
  cases xb
  all_goals
    go_wp2
    go_ret
    exact ⟨rfl, by repeat (first | exact Hmd.out.1 | apply More.drew | apply More.alloc)⟩

set_option maxHeartbeats 1000000 in
theorem tells_4 (M : Nat) (C : Array Value) (a b c n : Int) (w : World) (hC16 : C.size = 16) (xa xb : Bool) (a0 : 0 ≤ a) (a1 : a < 8) (b0 : 0 ≤ b) (b1 : b < 8) (ka : C[a.toNat * 2 + 1]? = some (.bool xa)) (kb : C[b.toNat * 2 + 1]? = some (.bool xb)) (xr : Bool) (rb ro rl rc : Nat) (hM : w.cell? ⟨M, 0, none⟩ = some (.slice (some ⟨rb, ro, none⟩) rl rc)) (c0 : 0 ≤ c) (c1 : c < rl) (kr : w.cell? ⟨rb, ro + c.toNat * 2 + 1, none⟩ = some (.bool xr)) :
    Calls Try.prog 78 #[.pointer (some ⟨M, 0, none⟩), .agg #[.int .i64 4, .int .i64 a, .int .i64 b, .int .i64 c, .int .i64 n], .agg C] w fun e w' => e = .returned (.bool (xb || (xa && !xr))) ∧ More w w' := by
  obtain ⟨W, HW⟩ : ∃ W : World, Hid (W = (w.alloc (.cells #[.int .i64 4, .int .i64 a, .int .i64 b, .int .i64 c, .int .i64 n] 55)).alloc (.cells C 119)) := ⟨_, rfl⟩
  have HB : Hid (Blk W w.heap.size #[.int .i64 4, .int .i64 a, .int .i64 b, .int .i64 c, .int .i64 n] 55 ∧ Blk W (w.heap.size + 1) C 119 ∧ More w W) := by
    rw [HW.out]
    exact ⟨(Blk.last _ _ _).alloc _ _, (by simpa using Blk.last (w.alloc (.cells #[.int .i64 4, .int .i64 a, .int .i64 b, .int .i64 c, .int .i64 n] 55)) C 119), ((More.refl _).alloc _ _).alloc _ _⟩
  obtain ⟨S, HS⟩ : ∃ S : World → Prop, Hid (∀ w', S w' ↔ More W w') := ⟨_, fun _ => Iff.rfl⟩
  have HS0 : S W.drew := (HS.out _).2 (More.refl _).drew
  have hne : Nonempty { w' // S w' } := ⟨⟨_, HS0⟩⟩
  have k1 : ∀ i : { w' // S w' }, i.val.cell? ⟨w.heap.size, 1, none⟩ = some (.int .i64 a) := fun i => (HB.out.1.more ((HS.out _).1 i.property)).cell rfl
  have k2 : ∀ i : { w' // S w' }, i.val.cell? ⟨w.heap.size, 2, none⟩ = some (.int .i64 b) := fun i => (HB.out.1.more ((HS.out _).1 i.property)).cell rfl
  have k3 : ∀ i : { w' // S w' }, i.val.cell? ⟨w.heap.size + 1, a.toNat * 2 + 1, none⟩ = some (.bool xa) := fun i => (HB.out.2.1.more ((HS.out _).1 i.property)).cell ka
  have k4 : ∀ i : { w' // S w' }, i.val.cell? ⟨w.heap.size + 1, b.toNat * 2 + 1, none⟩ = some (.bool xb) := fun i => (HB.out.2.1.more ((HS.out _).1 i.property)).cell kb
  obtain ⟨wd, Hwd⟩ : ∃ w_ : World, Hid (w_ = W.drew) := ⟨_, rfl⟩
  have Hmd : Hid (More w wd ∧ Blk wd w.heap.size #[.int .i64 4, .int .i64 a, .int .i64 b, .int .i64 c, .int .i64 n] 55 ∧ Blk wd (w.heap.size + 1) C 119) := by
    have m : More W wd := Hwd.out ▸ (More.refl W).drew
    exact ⟨HB.out.2.2.trans m, HB.out.1.more m, HB.out.2.1.more m⟩
  have i0 : wd.cell? ⟨w.heap.size, 0, none⟩ = some (.int .i64 4) := Hmd.out.2.1.cell rfl
  have i3 : wd.cell? ⟨w.heap.size, 3, none⟩ = some (.int .i64 c) := Hmd.out.2.1.cell rfl
  have hM' := Hmd.out.1.cell hM
  have kr' := Hmd.out.1.cell kr
  clear hM kr
  clear ka kb
  go_enter Try.func78, Try.ntmps78
  go_wp2_with (fail)
  rw [← HW.out]
  clear hC16
  refine wp_region_ord (S := S) [(0, true), (1, true), (2, true), (3, true), (4, true), (5, true), (6, true), (7, true), (8, true), (9, true), (10, true), (11, true)] (by kernel_rfl) (by kernel_rfl) (by kernel_rfl) HS0 ?_
  iterate 12 (refine wpOrd_take rfl (by kernel_rfl) (fun K hK => ?_); go_simp; refine hK _ _ ?_; clear hK K)
  refine wpOrd_done ?_
  rw [← Hwd.out]
  clear k1 k2 k3 k4 hne HS0
  obtain ⟨T, HT⟩ : ∃ T : World → Prop, Hid (∀ w', T w' ↔ More wd w') := ⟨_, fun _ => Iff.rfl⟩
  have HT0 : T wd.drew := (HT.out _).2 (More.refl _).drew
  have hne : Nonempty { w' // T w' } := ⟨⟨_, HT0⟩⟩
  have l1 : ∀ i : { w' // T w' }, i.val.cell? ⟨w.heap.size, 3, none⟩ = some (.int .i64 c) := fun i => ((HT.out _).1 i.property).cell i3
  have l2 : ∀ i : { w' // T w' }, i.val.cell? ⟨M, 0, none⟩ = some (.slice (some ⟨rb, ro, none⟩) rl rc) := fun i => ((HT.out _).1 i.property).cell hM'
  have l3 : ∀ i : { w' // T w' }, i.val.cell? ⟨rb, ro + c.toNat * 2 + 1, none⟩ = some (.bool xr) := fun i => ((HT.out _).1 i.property).cell kr'
  cases xb with
  | true =>
    go_wp2_with (fail)
    refine wp_region_ord (S := T) [(0, true), (1, true), (2, true), (3, true), (4, true), (5, true), (6, true), (7, true), (8, true), (9, true), (10, true), (11, true), (12, true), (13, true), (14, true), (15, true), (16, true), (17, true)] (by kernel_rfl) (by kernel_rfl) (by kernel_rfl) HT0 ?_
    iterate 2 (refine wpOrd_take rfl (by kernel_rfl) (fun K hK => ?_); go_simp; refine hK _ _ ?_; clear hK K)
    iterate 14 (refine wpOrd_skip rfl HT0 (by kernel_rfl) (by kernel_rfl) ?_)
    iterate 1 (refine wpOrd_pickT rfl rfl (by kernel_rfl) rfl (fun K hK => ?_); go_simp; refine hK _ _ ?_; clear hK K)
    iterate 1 (refine wpOrd_take rfl (by kernel_rfl) (fun K hK => ?_); go_simp; refine hK _ _ ?_; clear hK K)
    refine wpOrd_done ?_
    clear l1 l2 l3 hne HT0
    go_wp2
    go_ret
    exact ⟨by simp, Hmd.out.1.drew⟩
  | false =>
   cases xa with
   | false =>
    go_wp2_with (fail)
    refine wp_region_ord (S := T) [(0, true), (1, true), (2, true), (3, true), (4, true), (5, true), (6, true), (7, true), (8, true), (9, true), (10, true), (11, true), (12, true), (13, true), (14, true), (15, true), (16, true), (17, true)] (by kernel_rfl) (by kernel_rfl) (by kernel_rfl) HT0 ?_
    iterate 4 (refine wpOrd_take rfl (by kernel_rfl) (fun K hK => ?_); go_simp; refine hK _ _ ?_; clear hK K)
    iterate 11 (refine wpOrd_skip rfl HT0 (by kernel_rfl) (by kernel_rfl) ?_)
    iterate 1 (refine wpOrd_pickF rfl rfl (by kernel_rfl) rfl (fun K hK => ?_); go_simp; refine hK _ _ ?_; clear hK K)
    iterate 1 (refine wpOrd_pickF rfl rfl (by kernel_rfl) rfl (fun K hK => ?_); go_simp; refine hK _ _ ?_; clear hK K)
    iterate 1 (refine wpOrd_take rfl (by kernel_rfl) (fun K hK => ?_); go_simp; refine hK _ _ ?_; clear hK K)
    refine wpOrd_done ?_
    clear l1 l2 l3 hne HT0
    go_wp2
    go_ret
    exact ⟨by simp, Hmd.out.1.drew⟩
   | true =>
    go_wp2_with (fail)
    refine wp_region_ord (S := T) [(0, true), (1, true), (2, true), (3, true), (4, true), (5, true), (6, true), (7, true), (8, true), (9, true), (10, true), (11, true), (12, true), (13, true), (14, true), (15, true), (16, true), (17, true)] (by kernel_rfl) (by kernel_rfl) (by kernel_rfl) HT0 ?_
    iterate 15 (refine wpOrd_take rfl (by kernel_rfl) (fun K hK => ?_); go_simp; refine hK _ _ ?_; clear hK K)
    iterate 1 (refine wpOrd_pickT rfl rfl (by kernel_rfl) rfl (fun K hK => ?_); go_simp; refine hK _ _ ?_; clear hK K)
    iterate 1 (refine wpOrd_pickF rfl rfl (by kernel_rfl) rfl (fun K hK => ?_); go_simp; refine hK _ _ ?_; clear hK K)
    iterate 1 (refine wpOrd_take rfl (by kernel_rfl) (fun K hK => ?_); go_simp; refine hK _ _ ?_; clear hK K)
    refine wpOrd_done ?_
    clear l1 l2 l3 hne HT0
    go_wp2
    go_ret
    exact ⟨by simp, Hmd.out.1.drew⟩

set_option maxHeartbeats 1000000 in
theorem tells_6 (M : Nat) (C : Array Value) (a b c n : Int) (w : World) (hC16 : C.size = 16) (xa xb : Bool) (a0 : 0 ≤ a) (a1 : a < 8) (b0 : 0 ≤ b) (b1 : b < 8) (ka : C[a.toNat * 2 + 1]? = some (.bool xa)) (kb : C[b.toNat * 2 + 1]? = some (.bool xb)) (xr : Bool) (rb ro rl rc : Nat) (hM : w.cell? ⟨M, 0, none⟩ = some (.slice (some ⟨rb, ro, none⟩) rl rc)) (c0 : 0 ≤ c) (c1 : c < rl) (kr : w.cell? ⟨rb, ro + c.toNat * 2 + 1, none⟩ = some (.bool xr)) :
    Calls Try.prog 78 #[.pointer (some ⟨M, 0, none⟩), .agg #[.int .i64 6, .int .i64 a, .int .i64 b, .int .i64 c, .int .i64 n], .agg C] w fun e w' => e = .returned (.bool (xa && !xr)) ∧ More w w' := by
  obtain ⟨W, HW⟩ : ∃ W : World, Hid (W = (w.alloc (.cells #[.int .i64 6, .int .i64 a, .int .i64 b, .int .i64 c, .int .i64 n] 55)).alloc (.cells C 119)) := ⟨_, rfl⟩
  have HB : Hid (Blk W w.heap.size #[.int .i64 6, .int .i64 a, .int .i64 b, .int .i64 c, .int .i64 n] 55 ∧ Blk W (w.heap.size + 1) C 119 ∧ More w W) := by
    rw [HW.out]
    exact ⟨(Blk.last _ _ _).alloc _ _, (by simpa using Blk.last (w.alloc (.cells #[.int .i64 6, .int .i64 a, .int .i64 b, .int .i64 c, .int .i64 n] 55)) C 119), ((More.refl _).alloc _ _).alloc _ _⟩
  obtain ⟨S, HS⟩ : ∃ S : World → Prop, Hid (∀ w', S w' ↔ More W w') := ⟨_, fun _ => Iff.rfl⟩
  have HS0 : S W.drew := (HS.out _).2 (More.refl _).drew
  have hne : Nonempty { w' // S w' } := ⟨⟨_, HS0⟩⟩
  have k1 : ∀ i : { w' // S w' }, i.val.cell? ⟨w.heap.size, 1, none⟩ = some (.int .i64 a) := fun i => (HB.out.1.more ((HS.out _).1 i.property)).cell rfl
  have k2 : ∀ i : { w' // S w' }, i.val.cell? ⟨w.heap.size, 2, none⟩ = some (.int .i64 b) := fun i => (HB.out.1.more ((HS.out _).1 i.property)).cell rfl
  have k3 : ∀ i : { w' // S w' }, i.val.cell? ⟨w.heap.size + 1, a.toNat * 2 + 1, none⟩ = some (.bool xa) := fun i => (HB.out.2.1.more ((HS.out _).1 i.property)).cell ka
  have k4 : ∀ i : { w' // S w' }, i.val.cell? ⟨w.heap.size + 1, b.toNat * 2 + 1, none⟩ = some (.bool xb) := fun i => (HB.out.2.1.more ((HS.out _).1 i.property)).cell kb
  obtain ⟨wd, Hwd⟩ : ∃ w_ : World, Hid (w_ = W.drew) := ⟨_, rfl⟩
  have Hmd : Hid (More w wd ∧ Blk wd w.heap.size #[.int .i64 6, .int .i64 a, .int .i64 b, .int .i64 c, .int .i64 n] 55 ∧ Blk wd (w.heap.size + 1) C 119) := by
    have m : More W wd := Hwd.out ▸ (More.refl W).drew
    exact ⟨HB.out.2.2.trans m, HB.out.1.more m, HB.out.2.1.more m⟩
  have i0 : wd.cell? ⟨w.heap.size, 0, none⟩ = some (.int .i64 6) := Hmd.out.2.1.cell rfl
  have i3 : wd.cell? ⟨w.heap.size, 3, none⟩ = some (.int .i64 c) := Hmd.out.2.1.cell rfl
  have hM' := Hmd.out.1.cell hM
  have kr' := Hmd.out.1.cell kr
  clear hM kr
  clear ka kb
  go_enter Try.func78, Try.ntmps78
  go_wp2_with (fail)
  rw [← HW.out]
  clear hC16
  refine wp_region_ord (S := S) [(0, true), (1, true), (2, true), (3, true), (4, true), (5, true), (6, true), (7, true), (8, true), (9, true), (10, true), (11, true)] (by kernel_rfl) (by kernel_rfl) (by kernel_rfl) HS0 ?_
  iterate 12 (refine wpOrd_take rfl (by kernel_rfl) (fun K hK => ?_); go_simp; refine hK _ _ ?_; clear hK K)
  refine wpOrd_done ?_
  rw [← Hwd.out]
  clear k1 k2 k3 k4 hne HS0
  obtain ⟨T, HT⟩ : ∃ T : World → Prop, Hid (∀ w', T w' ↔ More wd w') := ⟨_, fun _ => Iff.rfl⟩
  have HT0 : T wd.drew := (HT.out _).2 (More.refl _).drew
  have hne : Nonempty { w' // T w' } := ⟨⟨_, HT0⟩⟩
  have l1 : ∀ i : { w' // T w' }, i.val.cell? ⟨w.heap.size, 3, none⟩ = some (.int .i64 c) := fun i => ((HT.out _).1 i.property).cell i3
  have l2 : ∀ i : { w' // T w' }, i.val.cell? ⟨M, 0, none⟩ = some (.slice (some ⟨rb, ro, none⟩) rl rc) := fun i => ((HT.out _).1 i.property).cell hM'
  have l3 : ∀ i : { w' // T w' }, i.val.cell? ⟨rb, ro + c.toNat * 2 + 1, none⟩ = some (.bool xr) := fun i => ((HT.out _).1 i.property).cell kr'
  cases xa with
  | false =>
    go_wp2_with (fail)
    refine wp_region_ord (S := T) [(0, true), (1, true), (2, true), (3, true), (4, true), (5, true), (6, true), (7, true), (8, true), (9, true), (10, true), (11, true), (12, true), (13, true), (14, true)] (by kernel_rfl) (by kernel_rfl) (by kernel_rfl) HT0 ?_
    iterate 2 (refine wpOrd_take rfl (by kernel_rfl) (fun K hK => ?_); go_simp; refine hK _ _ ?_; clear hK K)
    iterate 11 (refine wpOrd_skip rfl HT0 (by kernel_rfl) (by kernel_rfl) ?_)
    iterate 1 (refine wpOrd_pickF rfl rfl (by kernel_rfl) rfl (fun K hK => ?_); go_simp; refine hK _ _ ?_; clear hK K)
    iterate 1 (refine wpOrd_take rfl (by kernel_rfl) (fun K hK => ?_); go_simp; refine hK _ _ ?_; clear hK K)
    refine wpOrd_done ?_
    clear l1 l2 l3 hne HT0
    go_wp2
    go_ret
    exact ⟨by simp, Hmd.out.1.drew⟩
  | true =>
    go_wp2_with (fail)
    refine wp_region_ord (S := T) [(0, true), (1, true), (2, true), (3, true), (4, true), (5, true), (6, true), (7, true), (8, true), (9, true), (10, true), (11, true), (12, true), (13, true), (14, true)] (by kernel_rfl) (by kernel_rfl) (by kernel_rfl) HT0 ?_
    iterate 13 (refine wpOrd_take rfl (by kernel_rfl) (fun K hK => ?_); go_simp; refine hK _ _ ?_; clear hK K)
    iterate 1 (refine wpOrd_pickT rfl rfl (by kernel_rfl) rfl (fun K hK => ?_); go_simp; refine hK _ _ ?_; clear hK K)
    iterate 1 (refine wpOrd_take rfl (by kernel_rfl) (fun K hK => ?_); go_simp; refine hK _ _ ?_; clear hK K)
    refine wpOrd_done ?_
    clear l1 l2 l3 hne HT0
    go_wp2
    go_ret
    exact ⟨by simp, Hmd.out.1.drew⟩

set_option maxHeartbeats 1000000 in
theorem tells_8 (M : Nat) (C : Array Value) (a b c n : Int) (w : World) (hC16 : C.size = 16) (xa xb : Bool) (a0 : 0 ≤ a) (a1 : a < 8) (b0 : 0 ≤ b) (b1 : b < 8) (ka : C[a.toNat * 2 + 1]? = some (.bool xa)) (kb : C[b.toNat * 2 + 1]? = some (.bool xb)) :
    Calls Try.prog 78 #[.pointer (some ⟨M, 0, none⟩), .agg #[.int .i64 8, .int .i64 a, .int .i64 b, .int .i64 c, .int .i64 n], .agg C] w fun e w' => e = .returned (.bool (xa || xb)) ∧ More w w' := by
  obtain ⟨W, HW⟩ : ∃ W : World, Hid (W = (w.alloc (.cells #[.int .i64 8, .int .i64 a, .int .i64 b, .int .i64 c, .int .i64 n] 55)).alloc (.cells C 119)) := ⟨_, rfl⟩
  have HB : Hid (Blk W w.heap.size #[.int .i64 8, .int .i64 a, .int .i64 b, .int .i64 c, .int .i64 n] 55 ∧ Blk W (w.heap.size + 1) C 119 ∧ More w W) := by
    rw [HW.out]
    exact ⟨(Blk.last _ _ _).alloc _ _, (by simpa using Blk.last (w.alloc (.cells #[.int .i64 8, .int .i64 a, .int .i64 b, .int .i64 c, .int .i64 n] 55)) C 119), ((More.refl _).alloc _ _).alloc _ _⟩
  obtain ⟨S, HS⟩ : ∃ S : World → Prop, Hid (∀ w', S w' ↔ More W w') := ⟨_, fun _ => Iff.rfl⟩
  have HS0 : S W.drew := (HS.out _).2 (More.refl _).drew
  have hne : Nonempty { w' // S w' } := ⟨⟨_, HS0⟩⟩
  have k1 : ∀ i : { w' // S w' }, i.val.cell? ⟨w.heap.size, 1, none⟩ = some (.int .i64 a) := fun i => (HB.out.1.more ((HS.out _).1 i.property)).cell rfl
  have k2 : ∀ i : { w' // S w' }, i.val.cell? ⟨w.heap.size, 2, none⟩ = some (.int .i64 b) := fun i => (HB.out.1.more ((HS.out _).1 i.property)).cell rfl
  have k3 : ∀ i : { w' // S w' }, i.val.cell? ⟨w.heap.size + 1, a.toNat * 2 + 1, none⟩ = some (.bool xa) := fun i => (HB.out.2.1.more ((HS.out _).1 i.property)).cell ka
  have k4 : ∀ i : { w' // S w' }, i.val.cell? ⟨w.heap.size + 1, b.toNat * 2 + 1, none⟩ = some (.bool xb) := fun i => (HB.out.2.1.more ((HS.out _).1 i.property)).cell kb
  obtain ⟨wd, Hwd⟩ : ∃ w_ : World, Hid (w_ = W.drew) := ⟨_, rfl⟩
  have Hmd : Hid (More w wd ∧ Blk wd w.heap.size #[.int .i64 8, .int .i64 a, .int .i64 b, .int .i64 c, .int .i64 n] 55 ∧ Blk wd (w.heap.size + 1) C 119) := by
    have m : More W wd := Hwd.out ▸ (More.refl W).drew
    exact ⟨HB.out.2.2.trans m, HB.out.1.more m, HB.out.2.1.more m⟩
  have i0 : wd.cell? ⟨w.heap.size, 0, none⟩ = some (.int .i64 8) := Hmd.out.2.1.cell rfl
  have i3 : wd.cell? ⟨w.heap.size, 3, none⟩ = some (.int .i64 c) := Hmd.out.2.1.cell rfl
  clear ka kb
  go_enter Try.func78, Try.ntmps78
  go_wp2_with (fail)
  rw [← HW.out]
  clear hC16
  refine wp_region_ord (S := S) [(0, true), (1, true), (2, true), (3, true), (4, true), (5, true), (6, true), (7, true), (8, true), (9, true), (10, true), (11, true)] (by kernel_rfl) (by kernel_rfl) (by kernel_rfl) HS0 ?_
  iterate 12 (refine wpOrd_take rfl (by kernel_rfl) (fun K hK => ?_); go_simp; refine hK _ _ ?_; clear hK K)
  refine wpOrd_done ?_
  rw [← Hwd.out]
  clear k1 k2 k3 k4 hne HS0
  cases xa <;> cases xb
  all_goals
    go_wp2
    go_ret
    exact ⟨rfl, by repeat (first | exact Hmd.out.1 | apply More.drew | apply More.alloc)⟩

set_option maxHeartbeats 1000000 in
theorem tells_div (ov_ : Int) (hov_ : ov_ = 29 ∨ ov_ = 30) (M : Nat) (C : Array Value) (a b c n : Int) (w : World) (hC16 : C.size = 16) (xa xb : Bool) (a0 : 0 ≤ a) (a1 : a < 8) (b0 : 0 ≤ b) (b1 : b < 8) (ka : C[a.toNat * 2 + 1]? = some (.bool xa)) (kb : C[b.toNat * 2 + 1]? = some (.bool xb)) (xc : Bool) (c0 : 0 ≤ c) (c1 : c < 8) (kc : C[c.toNat * 2 + 1]? = some (.bool xc)) :
    Calls Try.prog 78 #[.pointer (some ⟨M, 0, none⟩), .agg #[.int .i64 ov_, .int .i64 a, .int .i64 b, .int .i64 c, .int .i64 n], .agg C] w fun e w' => e = .returned (.bool (xb || xc)) ∧ More w w' := by
  obtain ⟨W, HW⟩ : ∃ W : World, Hid (W = (w.alloc (.cells #[.int .i64 ov_, .int .i64 a, .int .i64 b, .int .i64 c, .int .i64 n] 55)).alloc (.cells C 119)) := ⟨_, rfl⟩
  have HB : Hid (Blk W w.heap.size #[.int .i64 ov_, .int .i64 a, .int .i64 b, .int .i64 c, .int .i64 n] 55 ∧ Blk W (w.heap.size + 1) C 119 ∧ More w W) := by
    rw [HW.out]
    exact ⟨(Blk.last _ _ _).alloc _ _, (by simpa using Blk.last (w.alloc (.cells #[.int .i64 ov_, .int .i64 a, .int .i64 b, .int .i64 c, .int .i64 n] 55)) C 119), ((More.refl _).alloc _ _).alloc _ _⟩
  obtain ⟨S, HS⟩ : ∃ S : World → Prop, Hid (∀ w', S w' ↔ More W w') := ⟨_, fun _ => Iff.rfl⟩
  have HS0 : S W.drew := (HS.out _).2 (More.refl _).drew
  have hne : Nonempty { w' // S w' } := ⟨⟨_, HS0⟩⟩
  have k1 : ∀ i : { w' // S w' }, i.val.cell? ⟨w.heap.size, 1, none⟩ = some (.int .i64 a) := fun i => (HB.out.1.more ((HS.out _).1 i.property)).cell rfl
  have k2 : ∀ i : { w' // S w' }, i.val.cell? ⟨w.heap.size, 2, none⟩ = some (.int .i64 b) := fun i => (HB.out.1.more ((HS.out _).1 i.property)).cell rfl
  have k3 : ∀ i : { w' // S w' }, i.val.cell? ⟨w.heap.size + 1, a.toNat * 2 + 1, none⟩ = some (.bool xa) := fun i => (HB.out.2.1.more ((HS.out _).1 i.property)).cell ka
  have k4 : ∀ i : { w' // S w' }, i.val.cell? ⟨w.heap.size + 1, b.toNat * 2 + 1, none⟩ = some (.bool xb) := fun i => (HB.out.2.1.more ((HS.out _).1 i.property)).cell kb
  obtain ⟨wd, Hwd⟩ : ∃ w_ : World, Hid (w_ = W.drew) := ⟨_, rfl⟩
  have Hmd : Hid (More w wd ∧ Blk wd w.heap.size #[.int .i64 ov_, .int .i64 a, .int .i64 b, .int .i64 c, .int .i64 n] 55 ∧ Blk wd (w.heap.size + 1) C 119) := by
    have m : More W wd := Hwd.out ▸ (More.refl W).drew
    exact ⟨HB.out.2.2.trans m, HB.out.1.more m, HB.out.2.1.more m⟩
  have i0 : wd.cell? ⟨w.heap.size, 0, none⟩ = some (.int .i64 ov_) := Hmd.out.2.1.cell rfl
  rcases hov_ with rfl | rfl
  all_goals
    have i3 : wd.cell? ⟨w.heap.size, 3, none⟩ = some (.int .i64 c) := Hmd.out.2.1.cell rfl
    have kc' := Hmd.out.2.2.cell kc
    clear kc
    clear ka kb
    go_enter Try.func78, Try.ntmps78
    go_wp2_with (fail)
    rw [← HW.out]
    clear hC16
    refine wp_region_ord (S := S) [(0, true), (1, true), (2, true), (3, true), (4, true), (5, true), (6, true), (7, true), (8, true), (9, true), (10, true), (11, true)] (by kernel_rfl) (by kernel_rfl) (by kernel_rfl) HS0 ?_
    iterate 12 (refine wpOrd_take rfl (by kernel_rfl) (fun K hK => ?_); go_simp; refine hK _ _ ?_; clear hK K)
    refine wpOrd_done ?_
    rw [← Hwd.out]
    clear k1 k2 k3 k4 hne HS0
    cases xb <;> cases xc
    all_goals
      go_wp2
      go_ret
      exact ⟨rfl, by repeat (first | exact Hmd.out.1 | apply More.drew | apply More.alloc)⟩

set_option maxHeartbeats 1000000 in
theorem tells_9 (M : Nat) (C : Array Value) (a b c n : Int) (w : World) (hC16 : C.size = 16) (xa xb : Bool) (a0 : 0 ≤ a) (a1 : a < 8) (b0 : 0 ≤ b) (b1 : b < 8) (ka : C[a.toNat * 2 + 1]? = some (.bool xa)) (kb : C[b.toNat * 2 + 1]? = some (.bool xb)) :
    Calls Try.prog 78 #[.pointer (some ⟨M, 0, none⟩), .agg #[.int .i64 9, .int .i64 a, .int .i64 b, .int .i64 c, .int .i64 n], .agg C] w fun e w' => e = .returned (.bool (xa)) ∧ More w w' := by
  obtain ⟨W, HW⟩ : ∃ W : World, Hid (W = (w.alloc (.cells #[.int .i64 9, .int .i64 a, .int .i64 b, .int .i64 c, .int .i64 n] 55)).alloc (.cells C 119)) := ⟨_, rfl⟩
  have HB : Hid (Blk W w.heap.size #[.int .i64 9, .int .i64 a, .int .i64 b, .int .i64 c, .int .i64 n] 55 ∧ Blk W (w.heap.size + 1) C 119 ∧ More w W) := by
    rw [HW.out]
    exact ⟨(Blk.last _ _ _).alloc _ _, (by simpa using Blk.last (w.alloc (.cells #[.int .i64 9, .int .i64 a, .int .i64 b, .int .i64 c, .int .i64 n] 55)) C 119), ((More.refl _).alloc _ _).alloc _ _⟩
  obtain ⟨S, HS⟩ : ∃ S : World → Prop, Hid (∀ w', S w' ↔ More W w') := ⟨_, fun _ => Iff.rfl⟩
  have HS0 : S W.drew := (HS.out _).2 (More.refl _).drew
  have hne : Nonempty { w' // S w' } := ⟨⟨_, HS0⟩⟩
  have k1 : ∀ i : { w' // S w' }, i.val.cell? ⟨w.heap.size, 1, none⟩ = some (.int .i64 a) := fun i => (HB.out.1.more ((HS.out _).1 i.property)).cell rfl
  have k2 : ∀ i : { w' // S w' }, i.val.cell? ⟨w.heap.size, 2, none⟩ = some (.int .i64 b) := fun i => (HB.out.1.more ((HS.out _).1 i.property)).cell rfl
  have k3 : ∀ i : { w' // S w' }, i.val.cell? ⟨w.heap.size + 1, a.toNat * 2 + 1, none⟩ = some (.bool xa) := fun i => (HB.out.2.1.more ((HS.out _).1 i.property)).cell ka
  have k4 : ∀ i : { w' // S w' }, i.val.cell? ⟨w.heap.size + 1, b.toNat * 2 + 1, none⟩ = some (.bool xb) := fun i => (HB.out.2.1.more ((HS.out _).1 i.property)).cell kb
  obtain ⟨wd, Hwd⟩ : ∃ w_ : World, Hid (w_ = W.drew) := ⟨_, rfl⟩
  have Hmd : Hid (More w wd ∧ Blk wd w.heap.size #[.int .i64 9, .int .i64 a, .int .i64 b, .int .i64 c, .int .i64 n] 55 ∧ Blk wd (w.heap.size + 1) C 119) := by
    have m : More W wd := Hwd.out ▸ (More.refl W).drew
    exact ⟨HB.out.2.2.trans m, HB.out.1.more m, HB.out.2.1.more m⟩
  have i0 : wd.cell? ⟨w.heap.size, 0, none⟩ = some (.int .i64 9) := Hmd.out.2.1.cell rfl
  have i3 : wd.cell? ⟨w.heap.size, 3, none⟩ = some (.int .i64 c) := Hmd.out.2.1.cell rfl
  clear ka kb
  go_enter Try.func78, Try.ntmps78
  go_wp2_with (fail)
  rw [← HW.out]
  clear hC16
  refine wp_region_ord (S := S) [(0, true), (1, true), (2, true), (3, true), (4, true), (5, true), (6, true), (7, true), (8, true), (9, true), (10, true), (11, true)] (by kernel_rfl) (by kernel_rfl) (by kernel_rfl) HS0 ?_
  iterate 12 (refine wpOrd_take rfl (by kernel_rfl) (fun K hK => ?_); go_simp; refine hK _ _ ?_; clear hK K)
  refine wpOrd_done ?_
  rw [← Hwd.out]
  clear k1 k2 k3 k4 hne HS0
  cases xa
  all_goals
    go_wp2
    go_ret
    exact ⟨rfl, by repeat (first | exact Hmd.out.1 | apply More.drew | apply More.alloc)⟩

set_option maxHeartbeats 1000000 in
theorem tells_other (M : Nat) (C : Array Value) (op a b c n : Int) (w : World) (hC16 : C.size = 16) (xa xb : Bool) (a0 : 0 ≤ a) (a1 : a < 8) (b0 : 0 ≤ b) (b1 : b < 8) (ka : C[a.toNat * 2 + 1]? = some (.bool xa)) (kb : C[b.toNat * 2 + 1]? = some (.bool xb)) (h3 : ¬ op = 3) (h4 : ¬ op = 4) (h6 : ¬ op = 6) (h8 : ¬ op = 8) (h29 : ¬ op = 29) (h30 : ¬ op = 30) (h9 : ¬ op = 9) :
    Calls Try.prog 78 #[.pointer (some ⟨M, 0, none⟩), .agg #[.int .i64 op, .int .i64 a, .int .i64 b, .int .i64 c, .int .i64 n], .agg C] w fun e w' => e = .returned (.bool (false)) ∧ More w w' := by
  have e3 : (op == 3) = false := by simp [h3]
  have e4 : (op == 4) = false := by simp [h4]
  have e6 : (op == 6) = false := by simp [h6]
  have e8 : (op == 8) = false := by simp [h8]
  have e29 : (op == 29) = false := by simp [h29]
  have e30 : (op == 30) = false := by simp [h30]
  have e9 : (op == 9) = false := by simp [h9]
  clear h3 h4 h6 h8 h29 h30 h9
  obtain ⟨W, HW⟩ : ∃ W : World, Hid (W = (w.alloc (.cells #[.int .i64 op, .int .i64 a, .int .i64 b, .int .i64 c, .int .i64 n] 55)).alloc (.cells C 119)) := ⟨_, rfl⟩
  have HB : Hid (Blk W w.heap.size #[.int .i64 op, .int .i64 a, .int .i64 b, .int .i64 c, .int .i64 n] 55 ∧ Blk W (w.heap.size + 1) C 119 ∧ More w W) := by
    rw [HW.out]
    exact ⟨(Blk.last _ _ _).alloc _ _, (by simpa using Blk.last (w.alloc (.cells #[.int .i64 op, .int .i64 a, .int .i64 b, .int .i64 c, .int .i64 n] 55)) C 119), ((More.refl _).alloc _ _).alloc _ _⟩
  obtain ⟨S, HS⟩ : ∃ S : World → Prop, Hid (∀ w', S w' ↔ More W w') := ⟨_, fun _ => Iff.rfl⟩
  have HS0 : S W.drew := (HS.out _).2 (More.refl _).drew
  have hne : Nonempty { w' // S w' } := ⟨⟨_, HS0⟩⟩
  have k1 : ∀ i : { w' // S w' }, i.val.cell? ⟨w.heap.size, 1, none⟩ = some (.int .i64 a) := fun i => (HB.out.1.more ((HS.out _).1 i.property)).cell rfl
  have k2 : ∀ i : { w' // S w' }, i.val.cell? ⟨w.heap.size, 2, none⟩ = some (.int .i64 b) := fun i => (HB.out.1.more ((HS.out _).1 i.property)).cell rfl
  have k3 : ∀ i : { w' // S w' }, i.val.cell? ⟨w.heap.size + 1, a.toNat * 2 + 1, none⟩ = some (.bool xa) := fun i => (HB.out.2.1.more ((HS.out _).1 i.property)).cell ka
  have k4 : ∀ i : { w' // S w' }, i.val.cell? ⟨w.heap.size + 1, b.toNat * 2 + 1, none⟩ = some (.bool xb) := fun i => (HB.out.2.1.more ((HS.out _).1 i.property)).cell kb
  obtain ⟨wd, Hwd⟩ : ∃ w_ : World, Hid (w_ = W.drew) := ⟨_, rfl⟩
  have Hmd : Hid (More w wd ∧ Blk wd w.heap.size #[.int .i64 op, .int .i64 a, .int .i64 b, .int .i64 c, .int .i64 n] 55 ∧ Blk wd (w.heap.size + 1) C 119) := by
    have m : More W wd := Hwd.out ▸ (More.refl W).drew
    exact ⟨HB.out.2.2.trans m, HB.out.1.more m, HB.out.2.1.more m⟩
  have i0 : wd.cell? ⟨w.heap.size, 0, none⟩ = some (.int .i64 op) := Hmd.out.2.1.cell rfl
  have i3 : wd.cell? ⟨w.heap.size, 3, none⟩ = some (.int .i64 c) := Hmd.out.2.1.cell rfl
  clear ka kb
  go_enter Try.func78, Try.ntmps78
  go_wp2_with (fail)
  rw [← HW.out]
  clear hC16
  refine wp_region_ord (S := S) [(0, true), (1, true), (2, true), (3, true), (4, true), (5, true), (6, true), (7, true), (8, true), (9, true), (10, true), (11, true)] (by kernel_rfl) (by kernel_rfl) (by kernel_rfl) HS0 ?_
  iterate 12 (refine wpOrd_take rfl (by kernel_rfl) (fun K hK => ?_); go_simp; refine hK _ _ ?_; clear hK K)
  refine wpOrd_done ?_
  rw [← Hwd.out]
  clear k1 k2 k3 k4 hne HS0
  all_goals
    go_wp2
    go_ret
    exact ⟨rfl, by repeat (first | exact Hmd.out.1 | apply More.drew | apply More.alloc)⟩

/-- All instructions of a program that may be name registers, or 0, in A and B. -/
theorem ab_of {p : Prg} {i : Ins} (h : InsOk p.rl p.log p.cl 8 i) : 0 ≤ i.a ∧ i.a < 8 ∧ 0 ≤ i.b ∧ i.b < 8 := by
  unfold InsOk Reg Rgn at h
  have hop : i.op = 1 ∨ i.op = 2 ∨ i.op = 3 ∨ i.op = 4 ∨ i.op = 5 ∨ i.op = 6 ∨ i.op = 7 ∨ i.op = 8 ∨ i.op = 9 ∨ i.op = 10 ∨ i.op = 11 ∨ i.op = 12 ∨ ¬ (1 ≤ i.op ∧ i.op ≤ 12) := by omega
  rcases hop with h1 | h1 | h1 | h1 | h1 | h1 | h1 | h1 | h1 | h1 | h1 | h1 | h1
  all_goals first
    | (simp [h1] at h; omega)
    | (rw [if_neg (by omega), if_neg (by omega), if_neg (by omega), if_neg (by omega), if_neg (by omega), if_neg (by omega), if_neg (by omega), if_neg (by omega), if_neg (by omega), if_neg (by omega), if_neg (by omega), if_neg (by omega)] at h; omega)

theorem tells_calls (p : Prg) (s : KS) (M : Nat) (lo : Loc) (i : Ins) (w : World) (hM : w.cell? ⟨M, 0, none⟩ = some (.slice lo.ra p.rl lo.rc)) (hp : PIn w p lo) (hi : InsOk p.rl p.log p.cl 8 i) :
    Calls Try.prog 78 #[.pointer (some ⟨M, 0, none⟩), .agg #[.int .i64 i.op, .int .i64 i.a, .int .i64 i.b, .int .i64 i.c, .int .i64 i.n], .agg (kv s)] w fun e w' => e = .returned (.bool (secretK p i s)) ∧ More w w' := by
  have hab := ab_of hi
  obtain ⟨op, a, b, c, n⟩ := i
  dsimp only at *
  have ka := (kv_at s a.toNat (by omega)).2
  have kb := (kv_at s b.toNat (by omega)).2
  have h16 := kv_size s
  obtain ⟨ha0, ha1, hb0, hb1⟩ := hab
  unfold InsOk Reg Rgn at hi
  dsimp only at hi
  by_cases h3 : op = 3
  · subst h3
    have e0 : secretK p ⟨3, a, b, c, n⟩ s = (s b.toNat).s := by unfold secretK; simp
    rw [e0]
    simp at hi
    exact tells_3 M (kv s) a b c n w h16 _ _ ha0 ha1 hb0 hb1 ka kb
  by_cases h4 : op = 4
  · subst h4
    have e0 : secretK p ⟨4, a, b, c, n⟩ s = ((s b.toNat).s || ((s a.toNat).s && !p.sec c.toNat)) := by unfold secretK; simp
    rw [e0]
    simp at hi
    rw [hp.hr (by omega)] at hM
    exact tells_4 M (kv s) a b c n w h16 _ _ ha0 ha1 hb0 hb1 ka kb _ lo.rb lo.ro p.rl lo.rc hM (by omega) (by omega) (hp.regs c.toNat (by omega)).2
  by_cases h6 : op = 6
  · subst h6
    have e0 : secretK p ⟨6, a, b, c, n⟩ s = ((s a.toNat).s && !p.sec c.toNat) := by unfold secretK; simp
    rw [e0]
    simp at hi
    rw [hp.hr (by omega)] at hM
    exact tells_6 M (kv s) a b c n w h16 _ _ ha0 ha1 hb0 hb1 ka kb _ lo.rb lo.ro p.rl lo.rc hM (by omega) (by omega) (hp.regs c.toNat (by omega)).2
  by_cases h8 : op = 8
  · subst h8
    have e0 : secretK p ⟨8, a, b, c, n⟩ s = ((s a.toNat).s || (s b.toNat).s) := by unfold secretK; simp
    rw [e0]
    simp at hi
    exact tells_8 M (kv s) a b c n w h16 _ _ ha0 ha1 hb0 hb1 ka kb
  by_cases h29 : op = 29
  · subst h29
    have e0 : secretK p ⟨29, a, b, c, n⟩ s = ((s b.toNat).s || (s c.toNat).s) := by unfold secretK; simp
    rw [e0]
    simp at hi
    exact tells_div 29 (by decide) M (kv s) a b c n w h16 _ _ ha0 ha1 hb0 hb1 ka kb _ (by omega) (by omega) (kv_at s c.toNat (by omega)).2
  by_cases h30 : op = 30
  · subst h30
    have e0 : secretK p ⟨30, a, b, c, n⟩ s = ((s b.toNat).s || (s c.toNat).s) := by unfold secretK; simp
    rw [e0]
    simp at hi
    exact tells_div 30 (by decide) M (kv s) a b c n w h16 _ _ ha0 ha1 hb0 hb1 ka kb _ (by omega) (by omega) (kv_at s c.toNat (by omega)).2
  by_cases h9 : op = 9
  · subst h9
    have e0 : secretK p ⟨9, a, b, c, n⟩ s = (s a.toNat).s := by unfold secretK; simp
    rw [e0]
    simp at hi
    exact tells_9 M (kv s) a b c n w h16 _ _ ha0 ha1 hb0 hb1 ka kb
  · have e0 : secretK p ⟨op, a, b, c, n⟩ s = false := by unfold secretK; simp [h3, h4, h6, h8, h29, h30, h9]
    rw [e0]
    exact tells_other M (kv s) op a b c n w h16 _ _ ha0 ha1 hb0 hb1 ka kb h3 h4 h6 h8 h29 h30 h9
set_option maxHeartbeats 1000000 in
theorem leavesCode_of (M cb co cl cc at_ : Nat) (op : Int) (w : World) (m1 : w.cell? ⟨M, 1, none⟩ = some (.slice (some ⟨cb, co, none⟩) cl cc)) (q0 : w.cell? ⟨cb, co + at_ * 5, none⟩ = some (.int .i64 op)) (hat : at_ < cl) (hcl : cl ≤ 200) :
  Calls Try.prog 76 #[.pointer (some ⟨M, 0, none⟩), .int .i64 at_] w fun e w' => e = .returned (.bool (!(decide (op = 7)) && (!(decide (op = 9)) && decide (cl ≤ at_ + 1)))) ∧ w' = w := by
 have hi1 : ((at_ : Int) < cl) := by omega
 have hi2 : ((cl : Int) ≤ 200) := by omega
 have hi0 : (0 : Int) ≤ cl := by omega
 by_cases hl : cl ≤ at_ + 1
 ·have e1 : ((at_ : Int) == (cl : Int) - 1) = true := by rw [beq_iff_eq]; omega
  by_cases h9 : op = 9
  ·subst h9
   rw [show (!(decide ((9 : Int) = 7)) && (!(decide ((9 : Int) = 9)) && decide (cl ≤ at_ + 1))) = false by simp]
   clear hl hat hcl
   go_enter Try.func76, Try.ntmps76
   go_wp2
   go_ret
   exact ⟨rfl, rfl⟩
  by_cases h7 : op = 7
  ·subst h7
   rw [show (!(decide ((7 : Int) = 7)) && (!(decide ((7 : Int) = 9)) && decide (cl ≤ at_ + 1))) = false by simp]
   clear hl hat hcl
   go_enter Try.func76, Try.ntmps76
   go_wp2
   go_ret
   exact ⟨rfl, rfl⟩
  ·rw [show (!(decide (op = 7)) && (!(decide (op = 9)) && decide (cl ≤ at_ + 1))) = true by simp [h7, h9, hl]]
   have e9 : (op == 9) = false := by simp [h9]
   have e7 : (op == 7) = false := by simp [h7]
   have f9 : (op != 9) = true := by simp [h9]
   have f7 : (op != 7) = true := by simp [h7]
   clear hl hat hcl
   go_enter Try.func76, Try.ntmps76
   go_wp2
   go_ret
   exact ⟨rfl, rfl⟩
 ·have e1 : ((at_ : Int) == (cl : Int) - 1) = false := by rw [beq_eq_false_iff_ne]; omega
  rw [show (!(decide (op = 7)) && (!(decide (op = 9)) && decide (cl ≤ at_ + 1))) = false by simp [hl]]
  clear hl hat hcl
  go_enter Try.func76, Try.ntmps76
  go_wp2
  go_ret
  exact ⟨rfl, rfl⟩

set_option maxHeartbeats 1000000 in
theorem leavesRegion_no (M : Nat) (C : Array Value) (op a b c n : Int) (w : World) (hC16 : C.size = 16) (h3 : ¬ op = 3) (h4 : ¬ op = 4) :
  Calls Try.prog 77 #[.pointer (some ⟨M, 0, none⟩), .agg #[.int .i64 op, .int .i64 a, .int .i64 b, .int .i64 c, .int .i64 n], .agg C] w fun e w' => e = .returned (.bool false) ∧ More w w' := by
 have e3 : (op == 3) = false := by simp [h3]
 have e4 : (op == 4) = false := by simp [h4]
 have f3 : (op != 3) = true := by simp [h3]
 have f4 : (op != 4) = true := by simp [h4]
 clear h3 h4
 go_enter Try.func77, Try.ntmps77
 go_wp2
 go_ret
 exact ⟨rfl, by repeat (first | exact More.refl _ | apply More.drew | apply More.alloc)⟩

set_option maxHeartbeats 1000000 in
theorem leavesRegion_34 (ov_ : Int) (hov_ : ov_ = 3 ∨ ov_ = 4) (M : Nat) (s : KS) (a b c n : Int) (w : World) (b0 : 0 ≤ b) (b1 : b < 8) (n0 : -9223372036854775808 ≤ n) (rb ro rl rc : Nat) (log : Nat → Int) (sec : Nat → Bool) (hM : w.cell? ⟨M, 0, none⟩ = some (.slice (some ⟨rb, ro, none⟩) rl rc)) (hregs : RegsAt w rb ro rl log sec) (c0 : 0 ≤ c) (c1 : c < rl) :
  Calls Try.prog 77 #[.pointer (some ⟨M, 0, none⟩), .agg #[.int .i64 ov_, .int .i64 a, .int .i64 b, .int .i64 c, .int .i64 n], .agg (kv s)] w fun e w' => e = .returned (.bool (decide (log c.toNat < (Kn.index (s b.toNat) n).b))) ∧ More w w' := by
 suffices hP : ∀ P : Ending → World → Prop, (∀ w', More w w' → P (.returned (.bool (decide (log c.toNat < (Kn.index (s b.toNat) n).b)))) w') → Calls Try.prog 77 #[.pointer (some ⟨M, 0, none⟩), .agg #[.int .i64 ov_, .int .i64 a, .int .i64 b, .int .i64 c, .int .i64 n], .agg (kv s)] w P from hP _ (fun w' m => ⟨rfl, m⟩)
 intro P hP0
 have HP : Hid (∀ w', More w w' → P (.returned (.bool (decide (log c.toNat < (Kn.index (s b.toNat) n).b)))) w') := hP0
 clear hP0
 have Hreg : Hid (RegsAt w rb ro rl log sec) := hregs
 clear hregs
 have hb8 : b.toNat < 8 := by omega
 have hcr : c.toNat < rl := by omega
 obtain ⟨W, HW⟩ : ∃ W : World, Hid (W = (w.alloc (.cells #[.int .i64 ov_, .int .i64 a, .int .i64 b, .int .i64 c, .int .i64 n] 55)).alloc (.cells (kv s) 119)) := ⟨_, rfl⟩
 have HB : Hid (Blk W w.heap.size #[.int .i64 ov_, .int .i64 a, .int .i64 b, .int .i64 c, .int .i64 n] 55 ∧ Blk W (w.heap.size + 1) (kv s) 119 ∧ More w W) := by
  rw [HW.out]
  exact ⟨(Blk.last _ _ _).alloc _ _, (by simpa using Blk.last (w.alloc (.cells #[.int .i64 ov_, .int .i64 a, .int .i64 b, .int .i64 c, .int .i64 n] 55)) (kv s) 119), ((More.refl _).alloc _ _).alloc _ _⟩
 obtain ⟨S, HS⟩ : ∃ S : World → Prop, Hid (∀ w', S w' ↔ More W w') := ⟨_, fun _ => Iff.rfl⟩
 have HS0 : S W.drew := (HS.out _).2 (More.refl _).drew
 have hne : Nonempty { w' // S w' } := ⟨⟨_, HS0⟩⟩
 have k0 : W.cell? ⟨w.heap.size, 0, none⟩ = some (.int .i64 ov_) := HB.out.1.cell rfl
 rcases hov_ with rfl | rfl
 all_goals
  have k2 : ∀ i : { w' // S w' }, i.val.cell? ⟨w.heap.size, 2, none⟩ = some (.int .i64 b) := fun i => (HB.out.1.more ((HS.out _).1 i.property)).cell rfl
  have k3 : ∀ i : { w' // S w' }, i.val.cell? ⟨w.heap.size, 3, none⟩ = some (.int .i64 c) := fun i => (HB.out.1.more ((HS.out _).1 i.property)).cell rfl
  have k4 : ∀ i : { w' // S w' }, i.val.cell? ⟨w.heap.size, 4, none⟩ = some (.int .i64 n) := fun i => (HB.out.1.more ((HS.out _).1 i.property)).cell rfl
  obtain ⟨xb, hxb⟩ : ∃ x, s b.toNat = x := ⟨_, rfl⟩
  have kb0 : ∀ i : { w' // S w' }, i.val.cell? ⟨w.heap.size + 1, b.toNat * 2, none⟩ = some (.int .i64 xb.b) := fun i => by rw [(HB.out.2.1.more ((HS.out _).1 i.property)).cell (kv_at _ _ hb8).1, hxb]
  have kb1 : ∀ i : { w' // S w' }, i.val.cell? ⟨w.heap.size + 1, b.toNat * 2 + 1, none⟩ = some (.bool xb.s) := fun i => by rw [(HB.out.2.1.more ((HS.out _).1 i.property)).cell (kv_at _ _ hb8).2, hxb]
  have kM : ∀ i : { w' // S w' }, i.val.cell? ⟨M, 0, none⟩ = some (.slice (some ⟨rb, ro, none⟩) rl rc) := fun i => (HB.out.2.2.trans ((HS.out _).1 i.property)).cell hM
  obtain ⟨lg, hlg⟩ : ∃ x, log c.toNat = x := ⟨_, rfl⟩
  have kr0 : ∀ i : { w' // S w' }, i.val.cell? ⟨rb, ro + c.toNat * 2, none⟩ = some (.int .i64 lg) := fun i => hlg ▸ (HB.out.2.2.trans ((HS.out _).1 i.property)).cell (Hreg.out _ hcr).1
  obtain ⟨v, hv⟩ : ∃ v, Kn.index xb n = v := ⟨_, rfl⟩
  have c2 : ∀ w : World, Calls Try.prog 84 #[kn xb.b xb.s, .int .i64 n] w fun e w' => e = .returned (kn v.b v.s) ∧ More w w' := fun w => hv ▸ sum_k xb n n0 w
  rw [hlg, hxb, hv] at HP
  clear hlg hxb hv hM
  obtain ⟨xbb, xbs⟩ := xb
  obtain ⟨vb, vs⟩ := v
  unfold kn at c2
  dsimp only at kb0 kb1 c2 HP
  have hfd : ∀ w, (Instr.field 61 (.agg #[.int .i64 vb, .bool vs]) 0).run Try.prog w = .ok (.int .i64 vb) w := fun _ => by kernel_rfl
  obtain ⟨C, hC⟩ : ∃ c, kv s = c := ⟨_, rfl⟩
  have hC16 : C.size = 16 := hC ▸ kv_size s
  rw [hC] at HW
  rw [hC]
  clear hC
  go_enter Try.func77, Try.ntmps77
  go_wp2_with (fail)
  rw [← HW.out]
  clear hC16 k0
  refine wp_region_ord (S := S) [(0, true), (1, true), (2, true), (3, true), (4, true), (5, true), (8, true), (9, true), (10, true), (11, true), (12, true), (13, true), (14, true), (15, true), (16, true), (17, true), (6, false), (7, true), (18, true), (19, true)] (by kernel_rfl) (by kernel_rfl) (by kernel_rfl) HS0 ?_
  iterate 16 (refine wpOrd_take rfl (by kernel_rfl) (fun K hK => ?_); go_simp; refine hK _ _ ?_; clear hK K)
  refine wpOrd_busy rfl (by kernel_rfl) (fun K hK => ?_); go_simp
  refine (c2 _).mono ?_
  rintro e w2 ⟨rfl, m_⟩
  have Hm2 : Hid (More W w2) := (More.refl W).drew.trans m_
  clear m_
  go_simp
  refine hK _ _ ((HS.out _).2 Hm2.out) ?_; clear hK K
  iterate 3 (refine wpOrd_take rfl (by kernel_rfl) (fun K hK => ?_); go_simp; refine hK _ _ ?_; clear hK K)
  refine wpOrd_done ?_
  have Hend : Hid (P (.returned (.bool (decide (lg < vb)))) w2) := HP.out _ (HB.out.2.2.trans Hm2.out)
  clear k2 k3 k4 kb0 kb1 kM kr0 hne HS0 c2 hfd HP
  go_wp2
  exact Hend.out

theorem leavesRegion_calls (p : Prg) (s : KS) (M : Nat) (lo : Loc) (i : Ins) (w : World) (hM : w.cell? ⟨M, 0, none⟩ = some (.slice lo.ra p.rl lo.rc)) (hp : PIn w p lo) (hi : InsOk p.rl p.log p.cl 8 i) (hro : RegionsOk p.rl p.log) (hn : -9223372036854775808 ≤ i.n) :
  Calls Try.prog 77 #[.pointer (some ⟨M, 0, none⟩), .agg #[.int .i64 i.op, .int .i64 i.a, .int .i64 i.b, .int .i64 i.c, .int .i64 i.n], .agg (kv s)] w fun e w' => e = .returned (.bool (boundK p i s)) ∧ More w w' := by
 obtain ⟨op, a, b, c, n⟩ := i
 dsimp only at *
 unfold InsOk Reg Rgn at hi
 dsimp only at hi
 have key : 0 ≤ c → c < p.rl → (decide (n < 0) || decide (p.log c.toNat < (Kn.index (s b.toNat) n).b)) = decide (p.log c.toNat < (Kn.index (s b.toNat) n).b) := by
  intro c0 c1
  by_cases h : n < 0
  ·have hl := hro.2 c.toNat (by omega)
   have : (Kn.index (s b.toNat) n).b = 17 := by unfold Kn.index; rw [if_pos h]
   rw [this]
   simp
   omega
  ·simp [h]
 by_cases h3 : op = 3
 ·subst h3
  simp at hi
  have e0 : boundK p ⟨3, a, b, c, n⟩ s = decide (p.log c.toNat < (Kn.index (s b.toNat) n).b) := by
   rw [← key (by omega) (by omega)]; unfold boundK; simp
  rw [e0]
  rw [hp.hr (by omega)] at hM
  exact leavesRegion_34 3 (by decide) M s a b c n w (by omega) (by omega) hn lo.rb lo.ro p.rl lo.rc p.log p.sec hM hp.regs (by omega) (by omega)
 by_cases h4 : op = 4
 ·subst h4
  simp at hi
  have e0 : boundK p ⟨4, a, b, c, n⟩ s = decide (p.log c.toNat < (Kn.index (s b.toNat) n).b) := by
   rw [← key (by omega) (by omega)]; unfold boundK; simp
  rw [e0]
  rw [hp.hr (by omega)] at hM
  exact leavesRegion_34 4 (by decide) M s a b c n w (by omega) (by omega) hn lo.rb lo.ro p.rl lo.rc p.log p.sec hM hp.regs (by omega) (by omega)
 ·have e0 : boundK p ⟨op, a, b, c, n⟩ s = false := by unfold boundK; simp [h3, h4]
  rw [e0]
  exact leavesRegion_no M (kv s) op a b c n w (kv_size s) h3 h4
set_option maxHeartbeats 4000000 in
theorem wrong_all {w0 : World} {p : Prg} {lo : Loc} {M B : Nat} {l : KV} {td : List Nat} {tv : Value} {w : World} (h : Ck w0 p lo M B l td tv w) (hcl : p.cl ≤ 200) (hn : td.length ≤ 99990) (at_ : Nat) (hat : at_ < p.cl) (s : KS) (hl : l at_ = some s) (op a b c n : Int) (hin : p.ins at_ = ⟨op, a, b, c, n⟩) (hok : InsOk p.rl p.log p.cl 8 ⟨op, a, b, c, n⟩) (hro : RegionsOk p.rl p.log) (n0 : -9223372036854775808 ≤ n) (n1 : n ≤ 9223372036854775807) :
  Calls Try.prog 65 #[.pointer (some ⟨M, 0, none⟩), .int .i64 at_] w fun e w' => e = .returned (.int .i64 (faultK p at_ s)) ∧ More w w' := by
 suffices hP : ∀ P : Ending → World → Prop, (∀ w', More w w' → P (.returned (.int .i64 (faultK p at_ s))) w') → Calls Try.prog 65 #[.pointer (some ⟨M, 0, none⟩), .int .i64 at_] w P from hP _ (fun w' m => ⟨rfl, m⟩)
 intro P hP0
 have HP : Hid (∀ w', More w w' → P (.returned (.int .i64 (faultK p at_ s))) w') := hP0
 clear hP0
 have Hck : Hid (Ck w0 p lo M B l td tv w) := h
 have m1 : w.cell? ⟨M, 1, none⟩ = some (.slice lo.ca p.cl lo.cc) := h.box.cell (j := 1) rfl
 have m2 : w.cell? ⟨M, 2, none⟩ = some (.slice (some ⟨B, 0, none⟩) p.cl p.cl) := h.box.cell (j := 2) rfl
 rw [h.pin.hc (by omega)] at m1
 have hcode := h.pinw.code at_ hat
 rw [hin] at hcode
 dsimp only at hcode
 obtain ⟨q0, q1, q2, q3, q4⟩ := hcode
 have Hpl : Hid (∀ w', More w w' → ∀ j v, (kv s)[j]? = some v → w'.cell? ⟨B, at_ * 17 + j, none⟩ = some v) := fun w' m => (h.more m).pl.regs hat hl
 have HN : Hid (td.length ≤ 99990 ∧ p.cl ≤ 200 ∧ at_ < p.cl ∧ p.ins at_ = ⟨op, a, b, c, n⟩) := ⟨hn, hcl, hat, hin⟩
 have hiC := info104k s
 have hone : (kv s).all (·.oneCell') = true := kv_one s
 have hz16 : (kv zeroK).size = (kv s).size := by rw [kv_size, kv_size]
 clear h hn hl hin
 have Hok : Hid (InsOk p.rl p.log p.cl 8 ⟨op, a, b, c, n⟩ ∧ RegionsOk p.rl p.log) := ⟨hok, hro⟩
 clear hok hro
 obtain ⟨C, hC⟩ : ∃ c, kv s = c := ⟨_, rfl⟩
 have HC : Hid (kv s = C) := hC
 rw [hC] at Hpl hiC hone hz16
 clear hC
 obtain ⟨cl, Hcl⟩ : ∃ x, Hid (p.cl = x) := ⟨_, rfl⟩
 rw [Hcl.out] at m1 m2 hat hcl
 have hi1 : ((at_ : Int) < cl) := by omega
 have hi2 : ((cl : Int) ≤ 200) := by omega
 obtain ⟨cb, Hcb⟩ : ∃ x, Hid (lo.cb = x) := ⟨_, rfl⟩
 obtain ⟨co, Hco⟩ : ∃ x, Hid (lo.co = x) := ⟨_, rfl⟩
 obtain ⟨cc, Hcc⟩ : ∃ x, Hid (lo.cc = x) := ⟨_, rfl⟩
 rw [Hcb.out, Hco.out] at m1 q0 q1 q2 q3 q4
 rw [Hcc.out] at m1
 obtain ⟨S, HS⟩ : ∃ S : World → Prop, Hid (∀ w', S w' ↔ More w w') := ⟨_, fun _ => Iff.rfl⟩
 have HS0 : S w.drew := (HS.out _).2 (More.refl _).drew
 have hne : Nonempty { w' // S w' } := ⟨⟨_, HS0⟩⟩
 have k1 : ∀ i : { w' // S w' }, i.val.cell? ⟨M, 1, none⟩ = some (.slice (some ⟨cb, co, none⟩) cl cc) := fun i => ((HS.out _).1 i.property).cell m1
 have k2 : ∀ i : { w' // S w' }, i.val.cell? ⟨M, 2, none⟩ = some (.slice (some ⟨B, 0, none⟩) cl cl) := fun i => ((HS.out _).1 i.property).cell m2
 have j0 : ∀ i : { w' // S w' }, i.val.cell? ⟨cb, co + at_ * 5, none⟩ = some (.int .i64 op) := fun i => ((HS.out _).1 i.property).cell q0
 have j1 : ∀ i : { w' // S w' }, i.val.cell? ⟨cb, co + at_ * 5 + 1, none⟩ = some (.int .i64 a) := fun i => ((HS.out _).1 i.property).cell q1
 have j2 : ∀ i : { w' // S w' }, i.val.cell? ⟨cb, co + at_ * 5 + 2, none⟩ = some (.int .i64 b) := fun i => ((HS.out _).1 i.property).cell q2
 have j3 : ∀ i : { w' // S w' }, i.val.cell? ⟨cb, co + at_ * 5 + 3, none⟩ = some (.int .i64 c) := fun i => ((HS.out _).1 i.property).cell q3
 have j4 : ∀ i : { w' // S w' }, i.val.cell? ⟨cb, co + at_ * 5 + 4, none⟩ = some (.int .i64 n) := fun i => ((HS.out _).1 i.property).cell q4
 clear m1 m2 q0 q1 q2 q3 q4
 go_enter Try.func65, Try.ntmps65
 go_wp2_with (fail)
 refine wp_region_left (S := S) (by kernel_rfl) HS0 ?_
 refine ol_take 0 rfl (by kernel_rfl) HS0 (by kernel_rfl) (fun K hK => ?_); go_simp; refine hK _ _ ?_; clear hK K
 refine ol_take 1 rfl (by kernel_rfl) HS0 (by kernel_rfl) (fun K hK => ?_); go_simp; refine hK _ _ ?_; clear hK K
 refine ol_take 2 rfl (by kernel_rfl) HS0 (by kernel_rfl) (fun K hK => ?_); go_simp; refine hK _ _ ?_; clear hK K
 refine ol_take 3 rfl (by kernel_rfl) HS0 (by kernel_rfl) (fun K hK => ?_); go_simp; refine hK _ _ ?_; clear hK K
 refine ol_take 4 rfl (by kernel_rfl) HS0 (by kernel_rfl) (fun K hK => ?_); go_simp; refine hK _ _ ?_; clear hK K
 refine ol_take 5 rfl (by kernel_rfl) HS0 (by kernel_rfl) (fun K hK => ?_); go_simp; refine hK _ _ ?_; clear hK K
 refine ol_take 6 rfl (by kernel_rfl) HS0 (by kernel_rfl) (fun K hK => ?_); go_simp; refine hK _ _ ?_; clear hK K
 refine ol_take 7 rfl (by kernel_rfl) HS0 (by kernel_rfl) (fun K hK => ?_); go_simp; refine hK _ _ ?_; clear hK K
 refine ol_take 8 rfl (by kernel_rfl) HS0 (by kernel_rfl) (fun K hK => ?_); go_simp; refine hK _ _ ?_; clear hK K
 refine ol_take 9 rfl (by kernel_rfl) HS0 (by kernel_rfl) (fun K hK => ?_); go_simp; refine hK _ _ ?_; clear hK K
 refine ol_take 10 rfl (by kernel_rfl) HS0 (by kernel_rfl) (fun K hK => ?_); go_simp; refine hK _ _ ?_; clear hK K
 refine ol_take 11 rfl (by kernel_rfl) HS0 (by kernel_rfl) (fun K hK => ?_); go_simp; refine hK _ _ ?_; clear hK K
 refine ol_take 12 rfl (by kernel_rfl) HS0 (by kernel_rfl) (fun K hK => ?_); go_simp; refine hK _ _ ?_; clear hK K
 refine ol_take 13 rfl (by kernel_rfl) HS0 (by kernel_rfl) (fun K hK => ?_); go_simp; refine hK _ _ ?_; clear hK K
 refine ol_take 14 rfl (by kernel_rfl) HS0 (by kernel_rfl) (fun K hK => ?_); go_simp; refine hK _ _ ?_; clear hK K
 refine ol_take 15 rfl (by kernel_rfl) HS0 (by kernel_rfl) (fun K hK => ⟨.agg C, fun i => exec_load_part 119 (.tmp 21) rfl B (at_ * 17) rfl C _ (Hpl.out _ ((HS.out _).1 i.property)) Try.underlying119 rfl hiC, ?_⟩); go_simp; refine hK _ _ ?_; clear hK K
 obtain ⟨wd, Hwd⟩ : ∃ wd : World, Hid (wd = w.drew) := ⟨_, rfl⟩
 have Hmwd : Hid (More w wd) := Hwd.out ▸ (More.refl w).drew
 rw [← Hwd.out]
 clear k1 k2 j0 j1 j2 j3 j4
 apply by_key
 ·intro key
  refine ol_two 16 17 (by kernel_rfl) ?_ ?_
  ·refine ol_step rfl (by kernel_rfl) (fun K hK => ?_); go_simp
   obtain ⟨w1, Hw1⟩ : ∃ w_ : World, Hid (w_ = wd.alloc (.cells #[.int .i64 0, .int .i64 0, .int .i64 0, .int .i64 0, .int .i64 0] 55)) := ⟨_, rfl⟩
   have m1 : More wd w1 := Hw1.out ▸ (More.refl _).alloc _ _
   have Hm1 : Hid (More w w1) := Hmwd.out.trans m1
   have Hb1 : Hid (Blk w1 wd.heap.size #[.int .i64 0, .int .i64 0, .int .i64 0, .int .i64 0, .int .i64 0] 55) := Hw1.out ▸ Blk.last _ _ _
   rw [← Hw1.out]
   clear m1 Hw1
   refine hK _ _ ((HS.out _).2 Hm1.out) ?_; clear hK K
   refine ol_one 17 (by kernel_rfl) ?_
   refine ol_step rfl (by kernel_rfl) (fun K hK => ?_); go_simp
   obtain ⟨w2, Hw2⟩ : ∃ w_ : World, Hid (w_ = w1.alloc (.cells #[.int .i64 0, .bool false, .int .i64 0, .bool false, .int .i64 0, .bool false, .int .i64 0, .bool false, .int .i64 0, .bool false, .int .i64 0, .bool false, .int .i64 0, .bool false, .int .i64 0, .bool false] 119)) := ⟨_, rfl⟩
   have m2 : More w1 w2 := Hw2.out ▸ (More.refl _).alloc _ _
   have Hm2 : Hid (More w w2) := Hm1.out.trans m2
   have Hb2 : Hid (Blk w2 w1.heap.size #[.int .i64 0, .bool false, .int .i64 0, .bool false, .int .i64 0, .bool false, .int .i64 0, .bool false, .int .i64 0, .bool false, .int .i64 0, .bool false, .int .i64 0, .bool false, .int .i64 0, .bool false] 119) := Hw2.out ▸ Blk.last _ _ _
   have Hb1' : Hid (Blk w2 wd.heap.size #[.int .i64 0, .int .i64 0, .int .i64 0, .int .i64 0, .int .i64 0] 55) := Hb1.out.more m2
   rw [← Hw2.out]
   clear m2 Hw2
   refine hK _ _ ((HS.out _).2 Hm2.out) ?_; clear hK K
   have F : Hid (LdB w (wd.heap.size) (w1.heap.size) w2) := ⟨Hb1'.out, Hb2.out, Hm2.out, Hmwd.out.size, Hm1.out.size, Nat.ne_of_lt Hb1.out.lt⟩
   refine ol_cast (listed' := #[true, true, true, true, true, true, true, true, true, true, true, true, true, true, true, true, true, true, false, false]) (by kernel_rfl) ?_
   clear Hb1 Hb2 Hb1' Hm2 Hm1
   generalize w1.heap.size = g5 at F ⊢
   generalize wd.heap.size = g4 at F ⊢
   clear w1
   revert w2 g5 g4
   exact key
  ·refine ol_step rfl (by kernel_rfl) (fun K hK => ?_); go_simp
   obtain ⟨w1, Hw1⟩ : ∃ w_ : World, Hid (w_ = wd.alloc (.cells #[.int .i64 0, .bool false, .int .i64 0, .bool false, .int .i64 0, .bool false, .int .i64 0, .bool false, .int .i64 0, .bool false, .int .i64 0, .bool false, .int .i64 0, .bool false, .int .i64 0, .bool false] 119)) := ⟨_, rfl⟩
   have m1 : More wd w1 := Hw1.out ▸ (More.refl _).alloc _ _
   have Hm1 : Hid (More w w1) := Hmwd.out.trans m1
   have Hb1 : Hid (Blk w1 wd.heap.size #[.int .i64 0, .bool false, .int .i64 0, .bool false, .int .i64 0, .bool false, .int .i64 0, .bool false, .int .i64 0, .bool false, .int .i64 0, .bool false, .int .i64 0, .bool false, .int .i64 0, .bool false] 119) := Hw1.out ▸ Blk.last _ _ _
   rw [← Hw1.out]
   clear m1 Hw1
   refine hK _ _ ((HS.out _).2 Hm1.out) ?_; clear hK K
   refine ol_one 16 (by kernel_rfl) ?_
   refine ol_step rfl (by kernel_rfl) (fun K hK => ?_); go_simp
   obtain ⟨w2, Hw2⟩ : ∃ w_ : World, Hid (w_ = w1.alloc (.cells #[.int .i64 0, .int .i64 0, .int .i64 0, .int .i64 0, .int .i64 0] 55)) := ⟨_, rfl⟩
   have m2 : More w1 w2 := Hw2.out ▸ (More.refl _).alloc _ _
   have Hm2 : Hid (More w w2) := Hm1.out.trans m2
   have Hb2 : Hid (Blk w2 w1.heap.size #[.int .i64 0, .int .i64 0, .int .i64 0, .int .i64 0, .int .i64 0] 55) := Hw2.out ▸ Blk.last _ _ _
   have Hb1' : Hid (Blk w2 wd.heap.size #[.int .i64 0, .bool false, .int .i64 0, .bool false, .int .i64 0, .bool false, .int .i64 0, .bool false, .int .i64 0, .bool false, .int .i64 0, .bool false, .int .i64 0, .bool false, .int .i64 0, .bool false] 119) := Hb1.out.more m2
   rw [← Hw2.out]
   clear m2 Hw2
   refine hK _ _ ((HS.out _).2 Hm2.out) ?_; clear hK K
   have F : Hid (LdB w (w1.heap.size) (wd.heap.size) w2) := ⟨Hb2.out, Hb1'.out, Hm2.out, Hm1.out.size, Hmwd.out.size, Nat.ne_of_gt Hb1.out.lt⟩
   refine ol_cast (listed' := #[true, true, true, true, true, true, true, true, true, true, true, true, true, true, true, true, true, true, false, false]) (by kernel_rfl) ?_
   exact key _ _ _ F
 ·intro w1 g5 g4 F
  obtain ⟨w2, Hw2⟩ : ∃ w_ : World, Hid (w_ = w1.setRow g4 #[.int .i64 op, .int .i64 a, .int .i64 b, .int .i64 c, .int .i64 n]) := ⟨_, rfl⟩
  obtain ⟨w3, Hw3⟩ : ∃ w_ : World, Hid (w_ = w2.setRow g5 C) := ⟨_, rfl⟩
  have F2 : Hid (Blk w2 g4 #[.int .i64 op, .int .i64 a, .int .i64 b, .int .i64 c, .int .i64 n] 55 ∧ Blk w2 g5 (kv zeroK) 119 ∧ More w w2) := by
   rw [Hw2.out]
   exact ⟨F.out.b4.setRow _, F.out.b5.setRow_other F.out.ne.symm _, F.out.up.setRow F.out.lt4 _⟩
  have F3 : Hid (LdF g4 g5 ⟨op, a, b, c, n⟩ s w3 ∧ More w w3) := by
   rw [Hw3.out]
   refine ⟨⟨F2.out.1.setRow_other F.out.ne _, ?_⟩, F2.out.2.2.setRow F.out.lt5 _⟩
   rw [HC.out]
   exact F2.out.2.1.setRow _
  refine ol_one 18 (by kernel_rfl) ?_
  refine ol_step rfl (by kernel_rfl) (fun K hK => ?_)
  refine wp_store_row 55 (.tmp 5) (.tmp 14) rfl g4 #[.int .i64 op, .int .i64 a, .int .i64 b, .int .i64 c, .int .i64 n] rfl rfl 55 #[.int .i64 0, .int .i64 0, .int .i64 0, .int .i64 0, .int .i64 0] F.out.b4 info67 rfl (by simp [Value.oneCell']) ?_
  rw [← Hw2.out]
  refine hK _ _ ((HS.out _).2 F2.out.2.2) ?_; clear hK K
  refine ol_one 19 (by kernel_rfl) ?_
  refine ol_step rfl (by kernel_rfl) (fun K hK => ?_)
  refine wp_store_row 119 (.tmp 6) (.tmp 22) rfl g5 C rfl rfl 119 _ F2.out.2.1 hiC hz16 hone ?_
  rw [← Hw3.out]
  refine hK _ _ ((HS.out _).2 F3.out.2) ?_; clear hK K
  refine ol_done (by kernel_rfl) ?_
  clear hne HS0
  have i0 : w3.cell? ⟨g4, 0, none⟩ = some (.int .i64 op) := F3.out.1.b4.cell rfl
  have i1 : w3.cell? ⟨g4, 1, none⟩ = some (.int .i64 a) := F3.out.1.b4.cell rfl
  have i2 : w3.cell? ⟨g4, 2, none⟩ = some (.int .i64 b) := F3.out.1.b4.cell rfl
  have i3 : w3.cell? ⟨g4, 3, none⟩ = some (.int .i64 c) := F3.out.1.b4.cell rfl
  have i4 : w3.cell? ⟨g4, 4, none⟩ = some (.int .i64 n) := F3.out.1.b4.cell rfl
  have Hck3 : Hid (Ck w0 p lo M B l td tv w3) := Hck.out.more F3.out.2
  have hb5 : w3.heap[g5]? = some (.cells C 119 (0, 0)) := by
   have := F3.out.1.b5
   rw [HC.out] at this
   exact this
  obtain ⟨o, ho⟩ : ∃ x, outK p at_ = x := ⟨_, rfl⟩
  obtain ⟨bd, hbd⟩ : ∃ x, boundK p ⟨op, a, b, c, n⟩ s = x := ⟨_, rfl⟩
  obtain ⟨sc, hsc⟩ : ∃ x, secretK p ⟨op, a, b, c, n⟩ s = x := ⟨_, rfl⟩
  have hF : faultK p at_ s = if o || bd then 4 else if sc then 5 else 0 := by unfold faultK; rw [HN.out.2.2.2, ho, hbd, hsc]
  rw [hF] at HP
  have c1 : Calls Try.prog 76 #[.pointer (some ⟨M, 0, none⟩), .int .i64 (at_ : Int)] w3 fun e w' => e = .returned (.bool o) ∧ w' = w3 := by
   have m1 : w3.cell? ⟨M, 1, none⟩ = some (.slice lo.ca p.cl lo.cc) := Hck3.out.box.cell (j := 1) rfl
   rw [Hck3.out.pin.hc (by have := HN.out.2.2.1; omega)] at m1
   have := leavesCode_of M lo.cb lo.co p.cl lo.cc at_ (p.ins at_).op w3 m1 (Hck3.out.pinw.code at_ HN.out.2.2.1).1 HN.out.2.2.1 HN.out.2.1
   rw [← ho]
   exact this
  have c2 : Calls Try.prog 77 #[.pointer (some ⟨M, 0, none⟩), .agg #[.int .i64 op, .int .i64 a, .int .i64 b, .int .i64 c, .int .i64 n], .agg C] w3 fun e w' => e = .returned (.bool bd) ∧ More w3 w' := by
   have := leavesRegion_calls p s M lo ⟨op, a, b, c, n⟩ w3 (Hck3.out.box.cell (j := 0) rfl) Hck3.out.pinw Hok.out.1 Hok.out.2 n0
   rw [hbd, HC.out] at this
   exact this
  have c3 : ∀ w4, More w3 w4 → Calls Try.prog 78 #[.pointer (some ⟨M, 0, none⟩), .agg #[.int .i64 op, .int .i64 a, .int .i64 b, .int .i64 c, .int .i64 n], .agg C] w4 fun e w' => e = .returned (.bool sc) ∧ More w4 w' := by
   intro w4 m4
   have := tells_calls p s M lo ⟨op, a, b, c, n⟩ w4 ((Hck3.out.more m4).box.cell (j := 0) rfl) (Hck3.out.more m4).pinw Hok.out.1
   rw [hsc, HC.out] at this
   exact this
  have C3 : Hid (∀ w4, More w3 w4 → Calls Try.prog 78 #[.pointer (some ⟨M, 0, none⟩), .agg #[.int .i64 op, .int .i64 a, .int .i64 b, .int .i64 c, .int .i64 n], .agg C] w4 fun e w' => e = .returned (.bool sc) ∧ More w4 w') := c3
  clear ho hbd hsc hF c3
  have z4 := F3.out.1.b4.lt
  have z5 := F3.out.1.b5.lt
  go_wp2_with (first | (refine wpList_load_row rfl 119 (.tmp 6) rfl g5 rfl 119 C (0, 0) _ hb5 Try.underlying119 rfl hiC ?_))
  refine c1.mono ?_
  rintro e w_ ⟨rfl, rfl⟩
  clear c1
  cases o with
  | true =>
   have Hend : Hid (P (.returned (.int .i64 4)) w_) := HP.out _ F3.out.2
   clear HP C3 c2
   go_wp2
   exact Hend.out
  | false =>
   go_wp2_with (first | (refine wpList_load_row rfl 119 (.tmp 6) rfl g5 rfl 119 C (0, 0) _ hb5 Try.underlying119 rfl hiC ?_))
   refine c2.mono ?_
   rintro e w4 ⟨rfl, m4⟩
   have Hm4 : Hid (More w_ w4) := m4
   have HF4 : Hid (LdF g4 g5 ⟨op, a, b, c, n⟩ s w4) := F3.out.1.more m4
   clear c2 m4
   cases bd with
   | true =>
    have Hend : Hid (P (.returned (.int .i64 4)) w4) := HP.out _ (F3.out.2.trans Hm4.out)
    clear HP C3
    go_wp2
    exact Hend.out
   | false =>
    have c3 := C3.out w4 Hm4.out
    clear i0 i1 i2 i3 i4 hb5 z4 z5
    have i0 : w4.cell? ⟨g4, 0, none⟩ = some (.int .i64 op) := HF4.out.b4.cell rfl
    have i1 : w4.cell? ⟨g4, 1, none⟩ = some (.int .i64 a) := HF4.out.b4.cell rfl
    have i2 : w4.cell? ⟨g4, 2, none⟩ = some (.int .i64 b) := HF4.out.b4.cell rfl
    have i3 : w4.cell? ⟨g4, 3, none⟩ = some (.int .i64 c) := HF4.out.b4.cell rfl
    have i4 : w4.cell? ⟨g4, 4, none⟩ = some (.int .i64 n) := HF4.out.b4.cell rfl
    have hb5 : w4.heap[g5]? = some (.cells C 119 (0, 0)) := by
     have := HF4.out.b5
     rw [HC.out] at this
     exact this
    go_wp2_with (first | (refine wpList_load_row rfl 119 (.tmp 6) rfl g5 rfl 119 C (0, 0) _ hb5 Try.underlying119 rfl hiC ?_))
    refine c3.mono ?_
    rintro e w5 ⟨rfl, m5⟩
    have Hm5 : Hid (More w w5) := (F3.out.2.trans Hm4.out).trans m5
    clear c3 m5
    cases sc with
    | true =>
     have Hend : Hid (P (.returned (.int .i64 5)) w5) := HP.out _ Hm5.out
     clear HP C3
     go_wp2
     exact Hend.out
    | false =>
     have Hend : Hid (P (.returned (.int .i64 0)) w5) := HP.out _ Hm5.out
     clear HP C3
     go_wp2
     exact Hend.out

theorem wrong_calls {w0 : World} {p : Prg} {lo : Loc} {M B : Nat} {l : KV} {td : List Nat} {tv : Value} {w : World} (h : Ck w0 p lo M B l td tv w) (hp : p.Ok 200 8) (hnr : ∀ i, i < p.cl → -9223372036854775808 ≤ (p.ins i).n ∧ (p.ins i).n ≤ 9223372036854775807) (hn : td.length ≤ 99990) (at_ : Nat) (hat : at_ < p.cl) (s : KS) (hl : l at_ = some s) :
  Calls Try.prog 65 #[.pointer (some ⟨M, 0, none⟩), .int .i64 at_] w fun e w' => e = .returned (.int .i64 (faultK p at_ s)) ∧ More w w' := by
 have hr := hnr at_ hat
 have hi := hp.2.2.2 at_ hat
 obtain ⟨i, hin⟩ : ∃ i, p.ins at_ = i := ⟨_, rfl⟩
 obtain ⟨op, a, b, c, n⟩ := i
 rw [hin] at hr hi
 exact wrong_all h hp.2.2.1 hn at_ hat s hl op a b c n hin hi hp.1 hr.1 hr.2
theorem pv_none : pv none = #[.int .i64 0, .bool false, .int .i64 0, .bool false, .int .i64 0, .bool false, .int .i64 0, .bool false, .int .i64 0, .bool false, .int .i64 0, .bool false, .int .i64 0, .bool false, .int .i64 0, .bool false, .bool false] := rfl
theorem info107p (o : Option KS) : (Try.prog.info? 122).map (·.size) = some (pv o).size := by rw [pv_size]; exact info107
/-- Where firstFault stands. -/
structure FF (w : World) (wr : World) : Prop where
 r : Blk wr w.heap.size #[.int .i64 0, .int .i64 0] 29
 m : More w wr

theorem wpList_store_rowAs {P : Program} {ops : Array Oper} {rest : List Oper} {o : Oper} {a : Act} {w : World} {Q : Exit → Act → World → Prop} (hgd : o.guard = none) (ty : TypeId) (x y : Operand) (ho : o.op = .store ty x y)
  (g : Nat) (cells : Array Value) (hx : a.eval x = .pointer (some ⟨g, 0, none⟩)) (hy : a.eval y = .agg cells)
  (t : TypeId) (old : Array Value) (hg : w.heap[g]? = some (.cells old t (0, 0))) (hi : (P.info? ty).map (·.size) = some cells.size)
  (hold : old.size = cells.size) (h1 : cells.all (·.oneCell') = true)
  (w' : World) (hw : w' = w.setRow g cells) (h : wpList P ops Q rest (a.put o.dst undef) w') : wpList P ops Q (o :: rest) a w := by
 subst hw
 exact wpList_store_row hgd ty x y ho g cells hx hy t old hg hi hold h1 h

set_option maxHeartbeats 2000000 in
theorem first_calls {w0 : World} {p : Prg} {lo : Loc} {M B : Nat} {l : KV} {td : List Nat} {tv : Value} {w : World} (h : Ck w0 p lo M B l td tv w) (hp : p.Ok 200 8) (hnr : ∀ i, i < p.cl → -9223372036854775808 ≤ (p.ins i).n ∧ (p.ins i).n ≤ 9223372036854775807) (hn : td.length ≤ 99990) :
  Calls Try.prog 48 #[.pointer (some ⟨M, 0, none⟩)] w fun e w' => e = .returned (.agg #[.int .i64 (checkK p l).1, .int .i64 (checkK p l).2]) ∧ More w w' := by
 suffices hP : ∀ P : Ending → World → Prop, (∀ w', More w w' → P (.returned (.agg #[.int .i64 (checkK p l).1, .int .i64 (checkK p l).2])) w') → Calls Try.prog 48 #[.pointer (some ⟨M, 0, none⟩)] w P from hP _ (fun w' m => ⟨rfl, m⟩)
 intro P hP0
 have HP : Hid (∀ w', More w w' → P (.returned (.agg #[.int .i64 (checkK p l).1, .int .i64 (checkK p l).2])) w') := hP0
 clear hP0
 have Hck : Hid (Ck w0 p lo M B l td tv w) := h
 have Hp : Hid (p.Ok 200 8 ∧ (∀ i, i < p.cl → -9223372036854775808 ≤ (p.ins i).n ∧ (p.ins i).n ≤ 9223372036854775807) ∧ td.length ≤ 99990) := ⟨hp, hnr, hn⟩
 have m2 : w.cell? ⟨M, 2, none⟩ = some (.slice (some ⟨B, 0, none⟩) p.cl p.cl) := h.box.cell (j := 2) rfl
 have hM := h.box.lt
 have hcl := hp.2.2.1
 obtain ⟨cl, Hcl⟩ : ∃ x, Hid (p.cl = x) := ⟨_, rfl⟩
 rw [Hcl.out] at m2 hcl
 have hi2 : ((cl : Int) ≤ 200) := by omega
 clear h hp hnr hn
 go_enter Try.func48, Try.ntmps48
 go_wp2_with (fail)
 go_loopg [11] cl (fun g iv wr => ∃ k : Nat, k + g = cl ∧ iv = .int .i64 k ∧ Hid (FF w wr ∧ checkK p l = scanK p l g k))
 case atStart => exact ⟨0, by omega, rfl, ⟨Blk.last _ _ _, (More.refl _).alloc _ _⟩, by unfold checkK; rw [Hcl.out]⟩
 case round =>
  obtain ⟨k, hkg, rfl, Hr⟩ := hrel
  cases gk with
  | zero =>
   obtain rfl : k = cl := by omega
   have hs := Hr.out.2
   rw [scanK] at hs
   have t0 : wr.cell? ⟨w.heap.size, 0, none⟩ = some (.int .i64 0) := Hr.out.1.r.cell (j := 0) rfl
   have t1 : wr.cell? ⟨w.heap.size, 1, none⟩ = some (.int .i64 0) := Hr.out.1.r.cell (j := 1) rfl
   have u0 := Hr.out.1.r.frozen 0
   have u1 := Hr.out.1.r.frozen 1
   rw [hs] at HP
   clear hs
   go_wp2
   refine bodyPost_ret (v := .agg #[.int .i64 0, .int .i64 0]) (by simp [results, Try.results48, go_sem, *]) rfl (HP.out _ ?_)
   exact (Hr.out.1.m.setCell (by simp) _).setCell (by simp) _
  | succ g =>
   have hk : k < cl := by omega
   have hki : (k : Int) < cl := by omega
   have hk63 : wrap64 ((k : Int) + 1) = (k : Int) + 1 := by unfold wrap64; omega
   have Hk : Hid (k < p.cl) := by show _ < _; rw [Hcl.out]; exact hk
   have Hckr : Hid (Ck w0 p lo M B l td tv wr) := Hck.out.more Hr.out.1.m
   have hpc := Hckr.out.pl.cells Hk.out
   have hip := info107p (l k)
   have hone := pv_one (l k)
   have hold : (#[.int .i64 0, .bool false, .int .i64 0, .bool false, .int .i64 0, .bool false, .int .i64 0, .bool false, .int .i64 0, .bool false, .int .i64 0, .bool false, .int .i64 0, .bool false, .int .i64 0, .bool false, .bool false] : Array Value).size = (pv (l k)).size := by rw [pv_size]; rfl
   have hlast := pv_last (l k)
   obtain ⟨D, hD⟩ : ∃ x, pv (l k) = x := ⟨_, rfl⟩
   rw [hD] at hpc hip hone hold hlast
   obtain ⟨w1, Hw1⟩ : ∃ w_ : World, Hid (w_ = wr.alloc (.cells #[.int .i64 0, .bool false, .int .i64 0, .bool false, .int .i64 0, .bool false, .int .i64 0, .bool false, .int .i64 0, .bool false, .int .i64 0, .bool false, .int .i64 0, .bool false, .int .i64 0, .bool false, .bool false] 122)) := ⟨_, rfl⟩
   have Hb1 : Hid (Blk w1 wr.heap.size #[.int .i64 0, .bool false, .int .i64 0, .bool false, .int .i64 0, .bool false, .int .i64 0, .bool false, .int .i64 0, .bool false, .int .i64 0, .bool false, .int .i64 0, .bool false, .int .i64 0, .bool false, .bool false] 122 ∧ More wr w1) := by rw [Hw1.out]; exact ⟨Blk.last _ _ _, (More.refl _).alloc _ _⟩
   obtain ⟨w2, Hw2⟩ : ∃ w_ : World, Hid (w_ = w1.setRow wr.heap.size D) := ⟨_, rfl⟩
   have Hb2 : Hid (Blk w2 wr.heap.size D 122 ∧ More wr w2) := by
    rw [Hw2.out]
    exact ⟨Hb1.out.1.setRow D, Hb1.out.2.setRow (Nat.le_refl _) D⟩
   have x16 := Hb2.out.1.cell hlast
   have hg1 := Hb1.out.1
   unfold Blk at hg1
   clear hD hlast
   cases hl : l k with
   | none =>
    have hs := Hr.out.2
    rw [scanK, hl] at hs
    dsimp only at hs
    rw [hl] at x16
    dsimp only [Option.isSome] at x16
    have HF2 : Hid (FF w w2 ∧ checkK p l = scanK p l g (k + 1)) := ⟨⟨Hr.out.1.r.more Hb2.out.2, Hr.out.1.m.trans Hb2.out.2⟩, hs⟩
    clear hs hl
    go_wp2_with (first
     | (refine wpList_load_part rfl 122 (.tmp 14) rfl B (k * 17) rfl D _ hpc Try.underlying122 rfl hip ?_)
     | (rw [← Hw1.out]; refine wpList_store_rowAs rfl 122 (.tmp 4) (.tmp 15) rfl wr.heap.size D rfl rfl 122 _ hg1 hip hold hone w2 Hw2.out ?_))
    go_roundg g
    case measure => omega
    case rel => exact ⟨k + 1, by omega, by first | rfl | simp, HF2.out⟩
   | some s =>
    have hs := Hr.out.2
    rw [scanK, hl] at hs
    dsimp only at hs
    rw [hl] at x16
    dsimp only [Option.isSome] at x16
    obtain ⟨f, hf⟩ : ∃ x, faultK p k s = x := ⟨_, rfl⟩
    rw [hf] at hs
    have c1 : Calls Try.prog 65 #[.pointer (some ⟨M, 0, none⟩), .int .i64 (k : Int)] w2 fun e w' => e = .returned (.int .i64 f) ∧ More w2 w' := by
     have := wrong_calls (Hckr.out.more Hb2.out.2) Hp.out.1 Hp.out.2.1 Hp.out.2.2 k Hk.out s hl
     rw [hf] at this
     exact this
    have HF2 : Hid (FF w w2) := ⟨Hr.out.1.r.more Hb2.out.2, Hr.out.1.m.trans Hb2.out.2⟩
    have Hs : Hid (checkK p l = if f = 0 then scanK p l g (k + 1) else (f, (k : Int))) := hs
    clear hs hl hf
    go_wp2_with (first
     | (refine wpList_load_part rfl 122 (.tmp 14) rfl B (k * 17) rfl D _ hpc Try.underlying122 rfl hip ?_)
     | (rw [← Hw1.out]; refine wpList_store_rowAs rfl 122 (.tmp 4) (.tmp 15) rfl wr.heap.size D rfl rfl 122 _ hg1 hip hold hone w2 Hw2.out ?_))
    refine c1.mono ?_
    rintro e w3 ⟨rfl, m3⟩
    have HF3 : Hid (FF w w3) := ⟨HF2.out.r.more m3, HF2.out.m.trans m3⟩
    clear c1 m3 hpc hip hone hold x16 hg1
    by_cases h0 : f = 0
    ·subst h0
     have Hs' : Hid (checkK p l = scanK p l g (k + 1)) := Hs.out
     clear Hs
     go_wp2
     go_roundg g
     case measure => omega
     case rel => exact ⟨k + 1, by omega, by first | rfl | simp, HF3.out, Hs'.out⟩
    ·have hs := Hs.out
     rw [if_neg h0] at hs
     rw [hs] at HP
     have e0 : (f == 0) = false := by simp [h0]
     have e1 : (f != 0) = true := by simp [h0]
     have t0 : w3.cell? ⟨w.heap.size, 0, none⟩ = some (.int .i64 0) := HF3.out.r.cell (j := 0) rfl
     have t1 : w3.cell? ⟨w.heap.size, 1, none⟩ = some (.int .i64 0) := HF3.out.r.cell (j := 1) rfl
     have u0 := HF3.out.r.frozen 0
     have u1 := HF3.out.r.frozen 1
     clear hs Hs h0
     go_wp2
     refine bodyPost_ret (v := .agg #[.int .i64 f, .int .i64 (k : Int)]) (by simp [results, Try.results48, go_sem, *]) rfl (HP.out _ ?_)
     exact (HF3.out.m.setCell (by simp) _).setCell (by simp) _
end
section
open Go.RowKit
set_option maxHeartbeats 400000 in
theorem regions_calls (ra : Option Addr) (rl rc : Nat) (ca : Option Addr) (cl cc : Nat) (code regs : Int) (b o : Nat) (log : Nat → Int) (sec : Nat → Bool) (w : World)
  (hra : 0 < rl → ra = some ⟨b, o, none⟩) (hr : RegsAt w b o rl log sec) :
  Calls Try.prog 66 #[.agg #[.slice ra rl rc, .slice ca cl cc, .int .i64 code, .int .i64 regs]] w (Says (RegionsOk rl log) w) := by
 by_cases h6 : 6 < rl
 ·have Hr : Hid (RegsAt w b o rl log sec) := hr
  clear hr
  have h6' : (6 : Int) < (rl : Int) := by omega
  go_enter Try.func66, Try.ntmps66
  go_wp2
  go_ret
  exact Says.no (fun h => by have := h.1; omega) ((More.refl _).alloc _ _)
 ·have h6' : ¬ (6 : Int) < (rl : Int) := by omega
  have Hr : Hid (RegsAt w b o rl log sec) := hr
  have Ha : Hid (0 < rl → ra = some ⟨b, o, none⟩) := hra
  clear hr hra
  go_enter Try.func66, Try.ntmps66
  go_wp2
  go_loopg [14] rl (fun g i wr => ∃ k : Nat, k + g = rl ∧ i = .int .i64 k ∧ (∀ j, j < k → 0 ≤ log j ∧ log j ≤ 6) ∧ More w wr)
  case atStart => exact ⟨0, by omega, rfl, fun j hj => by omega, (More.refl _).alloc _ _⟩
  case round =>
   obtain ⟨k, hkg, rfl, hok, m⟩ := hrel
   have Hm : Hid (More w wr ∧ ∀ j, j < k → 0 ≤ log j ∧ log j ≤ 6) := ⟨m, hok⟩
   clear m hok
   cases gk with
   | zero =>
    obtain rfl : k = rl := by omega
    go_wp2
    go_ret
    exact Says.yes ⟨by omega, Hm.out.2⟩ Hm.out.1
   | succ g =>
    have hk : k < rl := by omega
    have hk' : (k : Int) < (rl : Int) := by omega
    obtain rfl := Ha.out (by omega)
    have hc0 := ((Hr.out.more Hm.out.1) k hk).1
    have hc1 := ((Hr.out.more Hm.out.1) k hk).2
    by_cases hlo : log k < 0
    ·go_wp2
     go_ret
     exact Says.no (fun h => by have := (h.2 k hk).1; omega) (by repeat (first | exact Hm.out.1 | apply More.alloc))
    ·by_cases hhi : 6 < log k
     ·go_wp2
      go_ret
      exact Says.no (fun h => by have := (h.2 k hk).2; omega) (by repeat (first | exact Hm.out.1 | apply More.alloc))
     ·go_wp2
      go_roundg g
      case measure => omega
      case rel =>
       refine ⟨k + 1, by omega, by first | rfl | simp, fun j hj => ?_, by repeat (first | exact Hm.out.1 | apply More.alloc)⟩
       by_cases e : j = k
       ·subst e; omega
       ·exact Hm.out.2 j (by omega)

set_option maxHeartbeats 400000 in
theorem registers_calls (ra : Option Addr) (rl rc : Nat) (ca : Option Addr) (cl cc : Nat) (code regs : Int) (g n c : Nat) (hn : n ≤ 3) (x : Nat → Int) (w : World)
  (hx : ∀ i, i < n → w.cell? ⟨g, i, none⟩ = some (.int .i64 (x i))) :
  Calls Try.prog 87 #[.agg #[.slice ra rl rc, .slice ca cl cc, .int .i64 code, .int .i64 regs], .slice (some ⟨g, 0, none⟩) n c] w (Says (∀ i, i < n → Reg regs (x i)) w) := by
 have Hx : Hid (∀ i, i < n → w.cell? ⟨g, i, none⟩ = some (.int .i64 (x i))) := hx
 clear hx
 go_enter Try.func87, Try.ntmps87
 go_wp2
 go_loopg [9] n (fun q i wr => ∃ k : Nat, k + q = n ∧ i = .int .i64 k ∧ (∀ j, j < k → Reg regs (x j)) ∧ wr = w.alloc (.cells #[.slice ra rl rc, .slice ca cl cc, .int .i64 code, .int .i64 regs] 101))
 case atStart => exact ⟨0, by omega, rfl, fun j hj => by omega, rfl⟩
 case round =>
  obtain ⟨k, hkg, rfl, hok, rfl⟩ := hrel
  have Hok : Hid (∀ j, j < k → Reg regs (x j)) := hok
  clear hok
  cases gk with
  | zero =>
   obtain rfl : k = n := by omega
   go_wp2
   go_ret
   exact Says.yes Hok.out ((More.refl _).alloc _ _)
  | succ q =>
   have hk : k < n := by omega
   have hk' : (k : Int) < (n : Int) := by omega
   have hc0 := Hx.out k hk
   have hc := ((More.refl w).alloc #[.slice ra rl rc, .slice ca cl cc, .int .i64 code, .int .i64 regs] 101).cell hc0
   clear hc0
   by_cases hlo : x k < 0
   ·go_wp2
    go_ret
    exact Says.no (fun h => by have := (h k hk).1; omega) ((More.refl _).alloc _ _)
   ·by_cases hhi : regs ≤ x k
    ·go_wp2
     go_ret
     exact Says.no (fun h => by have := (h k hk).2; omega) ((More.refl _).alloc _ _)
    ·go_wp2
     go_roundg q
     case measure => omega
     case rel =>
      refine ⟨k + 1, by omega, by first | rfl | simp, fun j hj => ?_, rfl⟩
      by_cases e : j = k
      ·subst e; exact ⟨by omega, by omega⟩
      ·exact Hok.out j (by omega)

theorem region_calls (ra : Option Addr) (rl rc : Nat) (ca : Option Addr) (cl cc : Nat) (code regs : Int) (c : Int) (w : World) :
  Calls Try.prog 88 #[.agg #[.slice ra rl rc, .slice ca cl cc, .int .i64 code, .int .i64 regs], .int .i64 c] w (Says (Rgn rl c) w) := by
 by_cases h0 : 0 ≤ c
 ·by_cases h1 : c < (rl : Int)
  ·go_enter Try.func88, Try.ntmps88
   go_wp2
   go_ret
   exact Says.yes ⟨h0, h1⟩ ((More.refl _).alloc _ _)
  ·go_enter Try.func88, Try.ntmps88
   go_wp2
   go_ret
   exact Says.no (fun h => by have := h.2; omega) ((More.refl _).alloc _ _)
 ·go_enter Try.func88, Try.ntmps88
  go_wp2
  go_ret
  exact Says.no (fun h => by have := h.1; omega) ((More.refl _).alloc _ _)

theorem lay_below_calls (n e : Int) (w : World) : Calls Try.prog 89 #[.int .i64 n, .int .i64 e] w (Says (Blw n e) w) := by
 by_cases h0 : 0 ≤ n
 ·by_cases h1 : n < e
  ·go_enter Try.func89, Try.ntmps89
   go_wp2
   go_ret
   exact Says.yes ⟨h0, h1⟩ (More.refl _)
  ·go_enter Try.func89, Try.ntmps89
   go_wp2
   go_ret
   exact Says.no (fun h => by have := h.2; omega) (More.refl _)
 ·go_enter Try.func89, Try.ntmps89
  go_wp2
  go_ret
  exact Says.no (fun h => by have := h.1; omega) (More.refl _)

theorem place_calls (ra : Option Addr) (rl rc : Nat) (ca : Option Addr) (cl cc : Nat) (code regs : Int) (n : Int) (w : World) :
  Calls Try.prog 91 #[.agg #[.slice ra rl rc, .slice ca cl cc, .int .i64 code, .int .i64 regs], .int .i64 n] w (Says (Plc cl n) w) := by
 go_enter Try.func91, Try.ntmps91
 go_wp2_with (fail)
 refine (lay_below_calls _ _ _).mono ?_
 rintro e w1 ⟨r, rfl, hr, m⟩
 have Hr : Hid ((r = true ↔ Plc cl n) ∧ More w w1) := ⟨hr, ((More.refl _).alloc _ _).trans m⟩
 clear hr m
 go_wp2
 go_ret
 exact ⟨r, rfl, Hr.out.1, Hr.out.2⟩

theorem condition_calls (c : Int) (w : World) : Calls Try.prog 92 #[.int .i64 c] w (Says (Btw 1 4 c) w) := by
 by_cases h0 : 1 ≤ c
 ·by_cases h1 : c ≤ 4
  ·go_enter Try.func92, Try.ntmps92
   go_wp2
   go_ret
   exact Says.yes ⟨h0, h1⟩ (More.refl _)
  ·go_enter Try.func92, Try.ntmps92
   go_wp2
   go_ret
   exact Says.no (fun h => by have := h.2; omega) (More.refl _)
 ·go_enter Try.func92, Try.ntmps92
  go_wp2
  go_ret
  exact Says.no (fun h => by have := h.1; omega) (More.refl _)

theorem operation_calls (c : Int) (w : World) : Calls Try.prog 93 #[.int .i64 c] w (Says (Btw 21 30 c) w) := by
 by_cases h0 : 21 ≤ c
 ·by_cases h1 : c ≤ 30
  ·go_enter Try.func93, Try.ntmps93
   go_wp2
   go_ret
   exact Says.yes ⟨h0, h1⟩ (More.refl _)
  ·go_enter Try.func93, Try.ntmps93
   go_wp2
   go_ret
   exact Says.no (fun h => by have := h.2; omega) (More.refl _)
 ·go_enter Try.func93, Try.ntmps93
  go_wp2
  go_ret
  exact Says.no (fun h => by have := h.1; omega) (More.refl _)

theorem words_lit (l : Int) (h0 : 0 ≤ l) (h1 : l ≤ 6) (n : Int) (hn : n = wordsI l) (s : Bool) (w : World) :
  Calls Try.prog 90 #[.agg #[.int .i64 l, .bool s]] w fun e w' => e = .returned (.int .i64 n) ∧ More w w' := by
 have : l = 0 ∨ l = 1 ∨ l = 2 ∨ l = 3 ∨ l = 4 ∨ l = 5 ∨ l = 6 := by omega
 clear h0 h1
 rcases this with rfl | rfl | rfl | rfl | rfl | rfl | rfl
 all_goals
  simp [wordsI] at hn
  subst hn
  go_enter Try.func90, Try.ntmps90
  go_wp2
  go_ret
  exact ⟨rfl, (More.refl _).alloc _ _⟩

theorem words_calls (l : Int) (h0 : 0 ≤ l) (h1 : l ≤ 6) (s : Bool) (w : World) :
  Calls Try.prog 90 #[.agg #[.int .i64 l, .bool s]] w fun e w' => e = .returned (.int .i64 (wordsI l)) ∧ More w w' :=
 words_lit l h0 h1 _ rfl s w
/-- What the named fields must be. -/
def FieldsOk (rl : Nat) (log : Nat → Int) (cl : Nat) (regs op a b c n : Int) : Prop :=
 if op = 1 then Reg regs a
 else if op = 2 then Reg regs a ∧ Reg regs b
 else if op = 3 then (Reg regs a ∧ Reg regs b) ∧ Rgn rl c
 else if op = 4 then (Reg regs a ∧ Reg regs b) ∧ Rgn rl c
 else if op = 5 then Reg regs a ∧ Rgn rl c ∧ Wrd log c n
 else if op = 6 then Reg regs a ∧ Rgn rl c ∧ Wrd log c n
 else if op = 7 then Plc cl n
 else if op = 8 then (Reg regs a ∧ Reg regs b) ∧ Btw 1 4 c ∧ Plc cl n
 else if op = 9 then Reg regs a
 else if op = 10 then Reg regs a ∧ Reg regs b
 else if op = 11 then Reg regs a ∧ Btw 1 64 n
 else if op = 12 then True
 else Btw 21 30 op ∧ Reg regs a ∧ Reg regs b ∧ Reg regs c

theorem registers1 (ra : Option Addr) (rl rc : Nat) (ca : Option Addr) (cl cc : Nat) (code regs : Int) (g c : Nat) (x : Int) (w : World) (h0 : w.cell? ⟨g, 0, none⟩ = some (.int .i64 x)) :
  Calls Try.prog 87 #[.agg #[.slice ra rl rc, .slice ca cl cc, .int .i64 code, .int .i64 regs], .slice (some ⟨g, 0, none⟩) 1 c] w (Says (Reg regs x) w) := by
 refine (registers_calls ra rl rc ca cl cc code regs g 1 c (by omega) (fun _ => x) w (fun i hi => ?_)).mono ?_
 ·obtain rfl : i = 0 := by omega
  exact h0
 ·rintro e w' ⟨r, rfl, hr, m⟩
  exact ⟨r, rfl, hr.trans ⟨fun h => h 0 (by omega), fun h _ _ => h⟩, m⟩

theorem registers2 (ra : Option Addr) (rl rc : Nat) (ca : Option Addr) (cl cc : Nat) (code regs : Int) (g c : Nat) (x y : Int) (w : World) (h0 : w.cell? ⟨g, 0, none⟩ = some (.int .i64 x)) (h1 : w.cell? ⟨g, 1, none⟩ = some (.int .i64 y)) :
  Calls Try.prog 87 #[.agg #[.slice ra rl rc, .slice ca cl cc, .int .i64 code, .int .i64 regs], .slice (some ⟨g, 0, none⟩) 2 c] w (Says (Reg regs x ∧ Reg regs y) w) := by
 refine (registers_calls ra rl rc ca cl cc code regs g 2 c (by omega) (fun i => if i = 0 then x else y) w (fun i hi => ?_)).mono ?_
 ·have : i = 0 ∨ i = 1 := by omega
  rcases this with rfl | rfl
  ·exact h0
  ·exact h1
 ·rintro e w' ⟨r, rfl, hr, m⟩
  refine ⟨r, rfl, hr.trans ⟨fun h => ⟨h 0 (by omega), h 1 (by omega)⟩, fun h i hi => ?_⟩, m⟩
  have : i = 0 ∨ i = 1 := by omega
  rcases this with rfl | rfl
  ·exact h.1
  ·exact h.2

theorem registers3 (ra : Option Addr) (rl rc : Nat) (ca : Option Addr) (cl cc : Nat) (code regs : Int) (g c : Nat) (x y z : Int) (w : World) (h0 : w.cell? ⟨g, 0, none⟩ = some (.int .i64 x)) (h1 : w.cell? ⟨g, 1, none⟩ = some (.int .i64 y)) (h2 : w.cell? ⟨g, 2, none⟩ = some (.int .i64 z)) :
  Calls Try.prog 87 #[.agg #[.slice ra rl rc, .slice ca cl cc, .int .i64 code, .int .i64 regs], .slice (some ⟨g, 0, none⟩) 3 c] w (Says (Reg regs x ∧ Reg regs y ∧ Reg regs z) w) := by
 refine (registers_calls ra rl rc ca cl cc code regs g 3 c (by omega) (fun i => if i = 0 then x else if i = 1 then y else z) w (fun i hi => ?_)).mono ?_
 ·have : i = 0 ∨ i = 1 ∨ i = 2 := by omega
  rcases this with rfl | rfl | rfl
  ·exact h0
  ·exact h1
  ·exact h2
 ·rintro e w' ⟨r, rfl, hr, m⟩
  refine ⟨r, rfl, hr.trans ⟨fun h => ⟨h 0 (by omega), h 1 (by omega), h 2 (by omega)⟩, fun h i hi => ?_⟩, m⟩
  have : i = 0 ∨ i = 1 ∨ i = 2 := by omega
  rcases this with rfl | rfl | rfl
  ·exact h.1
  ·exact h.2.1
  ·exact h.2.2

/-- The two boxes of the receiver and of the instruction, in a world that has grown since. -/
theorem boxes {w w1 : World} {x0 x1 x2 x3 y0 y1 y2 y3 y4 : Value} {t u : TypeId} (m : More ((w.alloc (.cells #[x0, x1, x2, x3] t)).alloc (.cells #[y0, y1, y2, y3, y4] u)) w1) :
  (w1.cell? ⟨w.heap.size, 0, none⟩ = some x0 ∧ w1.cell? ⟨w.heap.size, 1, none⟩ = some x1 ∧ w1.cell? ⟨w.heap.size, 2, none⟩ = some x2 ∧ w1.cell? ⟨w.heap.size, 3, none⟩ = some x3) ∧
  w1.cell? ⟨w.heap.size + 1, 0, none⟩ = some y0 ∧ w1.cell? ⟨w.heap.size + 1, 1, none⟩ = some y1 ∧ w1.cell? ⟨w.heap.size + 1, 2, none⟩ = some y2 ∧ w1.cell? ⟨w.heap.size + 1, 3, none⟩ = some y3 ∧ w1.cell? ⟨w.heap.size + 1, 4, none⟩ = some y4 := by
 refine ⟨⟨m.cell (by go_simp), m.cell (by go_simp), m.cell (by go_simp), m.cell (by go_simp)⟩, m.cell (by go_simp), m.cell (by go_simp), m.cell (by go_simp), m.cell (by go_simp), m.cell (by go_simp)⟩

theorem fields_1 (ra : Option Addr) (rl rc : Nat) (ca : Option Addr) (cl cc : Nat) (code regs : Int) (a b c n : Int) (w : World) :
  Calls Try.prog 80 #[.agg #[.slice ra rl rc, .slice ca cl cc, .int .i64 code, .int .i64 regs], .agg #[.int .i64 1, .int .i64 a, .int .i64 b, .int .i64 c, .int .i64 n]] w (Says (Reg regs a) w) := by
 go_enter Try.func80, Try.ntmps80
 go_wp2_with (fail)
 refine (registers1 ra rl rc ca cl cc code regs _ _ a _ (by go_simp)).mono ?_
 rintro e w1 ⟨r, rfl, hr, m⟩
 have Hr : Hid ((r = true ↔ Reg regs a) ∧ More w w1) := ⟨hr, ((((More.refl _).alloc _ _).alloc _ _).alloc _ _).trans m⟩
 clear hr m
 go_wp2
 go_ret
 exact ⟨r, rfl, Hr.out.1, Hr.out.2⟩

theorem fields_9 (ra : Option Addr) (rl rc : Nat) (ca : Option Addr) (cl cc : Nat) (code regs : Int) (a b c n : Int) (w : World) :
  Calls Try.prog 80 #[.agg #[.slice ra rl rc, .slice ca cl cc, .int .i64 code, .int .i64 regs], .agg #[.int .i64 9, .int .i64 a, .int .i64 b, .int .i64 c, .int .i64 n]] w (Says (Reg regs a) w) := by
 go_enter Try.func80, Try.ntmps80
 go_wp2_with (fail)
 refine (registers1 ra rl rc ca cl cc code regs _ _ a _ (by go_simp)).mono ?_
 rintro e w1 ⟨r, rfl, hr, m⟩
 have Hr : Hid ((r = true ↔ Reg regs a) ∧ More w w1) := ⟨hr, ((((More.refl _).alloc _ _).alloc _ _).alloc _ _).trans m⟩
 clear hr m
 go_wp2
 go_ret
 exact ⟨r, rfl, Hr.out.1, Hr.out.2⟩

theorem fields_2 (ra : Option Addr) (rl rc : Nat) (ca : Option Addr) (cl cc : Nat) (code regs : Int) (a b c n : Int) (w : World) :
  Calls Try.prog 80 #[.agg #[.slice ra rl rc, .slice ca cl cc, .int .i64 code, .int .i64 regs], .agg #[.int .i64 2, .int .i64 a, .int .i64 b, .int .i64 c, .int .i64 n]] w (Says (Reg regs a ∧ Reg regs b) w) := by
 go_enter Try.func80, Try.ntmps80
 go_wp2_with (fail)
 refine (registers2 ra rl rc ca cl cc code regs _ _ a b _ (by go_simp) (by go_simp)).mono ?_
 rintro e w1 ⟨r, rfl, hr, m⟩
 have Hr : Hid ((r = true ↔ Reg regs a ∧ Reg regs b) ∧ More w w1) := ⟨hr, ((((More.refl _).alloc _ _).alloc _ _).alloc _ _).trans m⟩
 clear hr m
 go_wp2
 go_ret
 exact ⟨r, rfl, Hr.out.1, Hr.out.2⟩

theorem fields_10 (ra : Option Addr) (rl rc : Nat) (ca : Option Addr) (cl cc : Nat) (code regs : Int) (a b c n : Int) (w : World) :
  Calls Try.prog 80 #[.agg #[.slice ra rl rc, .slice ca cl cc, .int .i64 code, .int .i64 regs], .agg #[.int .i64 10, .int .i64 a, .int .i64 b, .int .i64 c, .int .i64 n]] w (Says (Reg regs a ∧ Reg regs b) w) := by
 go_enter Try.func80, Try.ntmps80
 go_wp2_with (fail)
 refine (registers2 ra rl rc ca cl cc code regs _ _ a b _ (by go_simp) (by go_simp)).mono ?_
 rintro e w1 ⟨r, rfl, hr, m⟩
 have Hr : Hid ((r = true ↔ Reg regs a ∧ Reg regs b) ∧ More w w1) := ⟨hr, ((((More.refl _).alloc _ _).alloc _ _).alloc _ _).trans m⟩
 clear hr m
 go_wp2
 go_ret
 exact ⟨r, rfl, Hr.out.1, Hr.out.2⟩

theorem fields_3 (ra : Option Addr) (rl rc : Nat) (ca : Option Addr) (cl cc : Nat) (code regs : Int) (a b c n : Int) (w : World) :
  Calls Try.prog 80 #[.agg #[.slice ra rl rc, .slice ca cl cc, .int .i64 code, .int .i64 regs], .agg #[.int .i64 3, .int .i64 a, .int .i64 b, .int .i64 c, .int .i64 n]] w (Says ((Reg regs a ∧ Reg regs b) ∧ Rgn rl c) w) := by
 go_enter Try.func80, Try.ntmps80
 go_wp2_with (fail)
 refine (registers2 ra rl rc ca cl cc code regs _ _ a b _ (by go_simp) (by go_simp)).mono ?_
 rintro e w1 ⟨r, rfl, hr, m⟩
 obtain ⟨⟨c0, c1, c2, c3⟩, d0, d1, d2, d3, d4⟩ := boxes (((More.refl _).alloc _ _).trans m)
 have m' := ((((More.refl _).alloc _ _).alloc _ _).alloc _ _).trans m
 have Hm : Hid (More w w1) := m'
 clear m m'
 cases r with
 | false =>
  have Hr : Hid (¬ (Reg regs a ∧ Reg regs b)) := fun h => by simpa using hr.2 h
  clear hr
  go_wp2
  go_ret
  exact Says.no (fun h => Hr.out h.1) Hm.out
 | true =>
  have Hr : Hid (Reg regs a ∧ Reg regs b) := hr.1 rfl
  clear hr
  go_wp2_with (fail)
  refine (region_calls ra rl rc ca cl cc code regs c _).mono ?_
  rintro e w2 ⟨r2, rfl, hr2, m2⟩
  have H2 : Hid ((r2 = true ↔ Rgn rl c) ∧ More w1 w2) := ⟨hr2, m2⟩
  clear hr2 m2
  go_wp2
  go_ret
  exact ⟨r2, rfl, H2.out.1.trans ⟨fun h => ⟨Hr.out, h⟩, fun h => h.2⟩, Hm.out.trans H2.out.2⟩

theorem fields_4 (ra : Option Addr) (rl rc : Nat) (ca : Option Addr) (cl cc : Nat) (code regs : Int) (a b c n : Int) (w : World) :
  Calls Try.prog 80 #[.agg #[.slice ra rl rc, .slice ca cl cc, .int .i64 code, .int .i64 regs], .agg #[.int .i64 4, .int .i64 a, .int .i64 b, .int .i64 c, .int .i64 n]] w (Says ((Reg regs a ∧ Reg regs b) ∧ Rgn rl c) w) := by
 go_enter Try.func80, Try.ntmps80
 go_wp2_with (fail)
 refine (registers2 ra rl rc ca cl cc code regs _ _ a b _ (by go_simp) (by go_simp)).mono ?_
 rintro e w1 ⟨r, rfl, hr, m⟩
 obtain ⟨⟨c0, c1, c2, c3⟩, d0, d1, d2, d3, d4⟩ := boxes (((More.refl _).alloc _ _).trans m)
 have m' := ((((More.refl _).alloc _ _).alloc _ _).alloc _ _).trans m
 have Hm : Hid (More w w1) := m'
 clear m m'
 cases r with
 | false =>
  have Hr : Hid (¬ (Reg regs a ∧ Reg regs b)) := fun h => by simpa using hr.2 h
  clear hr
  go_wp2
  go_ret
  exact Says.no (fun h => Hr.out h.1) Hm.out
 | true =>
  have Hr : Hid (Reg regs a ∧ Reg regs b) := hr.1 rfl
  clear hr
  go_wp2_with (fail)
  refine (region_calls ra rl rc ca cl cc code regs c _).mono ?_
  rintro e w2 ⟨r2, rfl, hr2, m2⟩
  have H2 : Hid ((r2 = true ↔ Rgn rl c) ∧ More w1 w2) := ⟨hr2, m2⟩
  clear hr2 m2
  go_wp2
  go_ret
  exact ⟨r2, rfl, H2.out.1.trans ⟨fun h => ⟨Hr.out, h⟩, fun h => h.2⟩, Hm.out.trans H2.out.2⟩

theorem fields_7 (ra : Option Addr) (rl rc : Nat) (ca : Option Addr) (cl cc : Nat) (code regs : Int) (a b c n : Int) (w : World) :
  Calls Try.prog 80 #[.agg #[.slice ra rl rc, .slice ca cl cc, .int .i64 code, .int .i64 regs], .agg #[.int .i64 7, .int .i64 a, .int .i64 b, .int .i64 c, .int .i64 n]] w (Says (Plc cl n) w) := by
 go_enter Try.func80, Try.ntmps80
 go_wp2_with (fail)
 refine (place_calls ra rl rc ca cl cc code regs n _).mono ?_
 rintro e w1 ⟨r, rfl, hr, m⟩
 have Hr : Hid ((r = true ↔ Plc cl n) ∧ More w w1) := ⟨hr, (((More.refl _).alloc _ _).alloc _ _).trans m⟩
 clear hr m
 go_wp2
 go_ret
 exact ⟨r, rfl, Hr.out.1, Hr.out.2⟩

theorem fields_8 (ra : Option Addr) (rl rc : Nat) (ca : Option Addr) (cl cc : Nat) (code regs : Int) (a b c n : Int) (w : World) :
  Calls Try.prog 80 #[.agg #[.slice ra rl rc, .slice ca cl cc, .int .i64 code, .int .i64 regs], .agg #[.int .i64 8, .int .i64 a, .int .i64 b, .int .i64 c, .int .i64 n]] w (Says ((Reg regs a ∧ Reg regs b) ∧ Btw 1 4 c ∧ Plc cl n) w) := by
 go_enter Try.func80, Try.ntmps80
 go_wp2_with (fail)
 refine (registers2 ra rl rc ca cl cc code regs _ _ a b _ (by go_simp) (by go_simp)).mono ?_
 rintro e w1 ⟨r, rfl, hr, m⟩
 obtain ⟨⟨c0, c1, c2, c3⟩, d0, d1, d2, d3, d4⟩ := boxes (((More.refl _).alloc _ _).trans m)
 have m' := ((((More.refl _).alloc _ _).alloc _ _).alloc _ _).trans m
 have Hm : Hid (More w w1) := m'
 clear m m'
 cases r with
 | false =>
  have Hr : Hid (¬ (Reg regs a ∧ Reg regs b)) := fun h => by simpa using hr.2 h
  clear hr
  go_wp2
  go_ret
  exact Says.no (fun h => Hr.out h.1) Hm.out
 | true =>
  have Hr : Hid (Reg regs a ∧ Reg regs b) := hr.1 rfl
  clear hr
  go_wp2_with (fail)
  refine (condition_calls c _).mono ?_
  rintro e w2 ⟨r2, rfl, hr2, m2⟩
  have e0 := m2.cell c0
  have e1 := m2.cell c1
  have e2 := m2.cell c2
  have e3 := m2.cell c3
  have e4 := m2.cell d4
  clear c0 c1 c2 c3 d0 d1 d2 d3 d4
  have H2m : Hid (More w1 w2) := m2
  clear m2
  cases r2 with
  | false =>
   have H2 : Hid (¬ Btw 1 4 c) := fun h => by simpa using hr2.2 h
   clear hr2
   go_wp2
   go_ret
   exact Says.no (fun h => H2.out h.2.1) (Hm.out.trans H2m.out)
  | true =>
   have H2 : Hid (Btw 1 4 c) := hr2.1 rfl
   clear hr2
   go_wp2_with (fail)
   refine (place_calls ra rl rc ca cl cc code regs n _).mono ?_
   rintro e w3 ⟨r3, rfl, hr3, m3⟩
   have H3 : Hid ((r3 = true ↔ Plc cl n) ∧ More w2 w3) := ⟨hr3, m3⟩
   clear hr3 m3
   go_wp2
   go_ret
   exact ⟨r3, rfl, H3.out.1.trans ⟨fun h => ⟨Hr.out, H2.out, h⟩, fun h => h.2.2⟩, (Hm.out.trans H2m.out).trans H3.out.2⟩

theorem fields_11 (ra : Option Addr) (rl rc : Nat) (ca : Option Addr) (cl cc : Nat) (code regs : Int) (a b c n : Int) (w : World) :
  Calls Try.prog 80 #[.agg #[.slice ra rl rc, .slice ca cl cc, .int .i64 code, .int .i64 regs], .agg #[.int .i64 11, .int .i64 a, .int .i64 b, .int .i64 c, .int .i64 n]] w (Says (Reg regs a ∧ Btw 1 64 n) w) := by
 go_enter Try.func80, Try.ntmps80
 go_wp2_with (fail)
 refine (registers1 ra rl rc ca cl cc code regs _ _ a _ (by go_simp)).mono ?_
 rintro e w1 ⟨r, rfl, hr, m⟩
 obtain ⟨⟨c0, c1, c2, c3⟩, d0, d1, d2, d3, d4⟩ := boxes (((More.refl _).alloc _ _).trans m)
 have m' := ((((More.refl _).alloc _ _).alloc _ _).alloc _ _).trans m
 have Hm : Hid (More w w1) := m'
 clear m m'
 cases r with
 | false =>
  have Hr : Hid (¬ (Reg regs a)) := fun h => by simpa using hr.2 h
  clear hr
  go_wp2
  go_ret
  exact Says.no (fun h => Hr.out h.1) Hm.out
 | true =>
  have Hr : Hid (Reg regs a) := hr.1 rfl
  clear hr
  by_cases h0 : 1 ≤ n
  ·by_cases h1 : n ≤ 64
   ·go_wp2
    go_ret
    exact Says.yes ⟨Hr.out, h0, h1⟩ Hm.out
   ·go_wp2
    go_ret
    exact ⟨_, rfl, ⟨fun h => by simp at h <;> omega, fun h => by have := h.2.2; omega⟩, Hm.out⟩
  ·go_wp2
   go_ret
   exact Says.no (fun h => by have := h.2.1; omega) Hm.out

theorem fields_12 (ra : Option Addr) (rl rc : Nat) (ca : Option Addr) (cl cc : Nat) (code regs : Int) (a b c n : Int) (w : World) :
  Calls Try.prog 80 #[.agg #[.slice ra rl rc, .slice ca cl cc, .int .i64 code, .int .i64 regs], .agg #[.int .i64 12, .int .i64 a, .int .i64 b, .int .i64 c, .int .i64 n]] w (Says (True) w) := by
 go_enter Try.func80, Try.ntmps80
 go_wp2
 go_ret
 exact Says.yes trivial (((More.refl _).alloc _ _).alloc _ _)

theorem fields_else (ra : Option Addr) (rl rc : Nat) (ca : Option Addr) (cl cc : Nat) (code regs : Int) (op a b c n : Int) (h1 : ¬ op = 1) (h2 : ¬ op = 2) (h3 : ¬ op = 3) (h4 : ¬ op = 4) (h5 : ¬ op = 5) (h6 : ¬ op = 6) (h7 : ¬ op = 7) (h8 : ¬ op = 8) (h9 : ¬ op = 9) (h10 : ¬ op = 10) (h11 : ¬ op = 11) (h12 : ¬ op = 12) (w : World) :
  Calls Try.prog 80 #[.agg #[.slice ra rl rc, .slice ca cl cc, .int .i64 code, .int .i64 regs], .agg #[.int .i64 op, .int .i64 a, .int .i64 b, .int .i64 c, .int .i64 n]] w (Says (Btw 21 30 op ∧ Reg regs a ∧ Reg regs b ∧ Reg regs c) w) := by
 go_enter Try.func80, Try.ntmps80
 go_wp2_with (fail)
 clear h1 h2 h3 h4 h5 h6 h7 h8 h9 h10 h11 h12
 refine (operation_calls op _).mono ?_
 rintro e w1 ⟨r, rfl, hr, m⟩
 obtain ⟨⟨c0, c1, c2, c3⟩, d0, d1, d2, d3, d4⟩ := boxes m
 have Hm : Hid (More w w1) := (((More.refl _).alloc _ _).alloc _ _).trans m
 clear m
 cases r with
 | false =>
  have Hr : Hid (¬ (Btw 21 30 op)) := fun h => by simpa using hr.2 h
  clear hr
  go_wp2
  go_ret
  exact Says.no (fun h => Hr.out h.1) Hm.out
 | true =>
  have Hr : Hid (Btw 21 30 op) := hr.1 rfl
  clear hr
  go_wp2_with (fail)
  refine (registers3 ra rl rc ca cl cc code regs _ _ a b c _ (by go_simp) (by go_simp) (by go_simp)).mono ?_
  rintro e w2 ⟨r2, rfl, hr2, m2⟩
  have H2 : Hid ((r2 = true ↔ Reg regs a ∧ Reg regs b ∧ Reg regs c) ∧ More w1 w2) := ⟨hr2, ((More.refl _).alloc _ _).trans m2⟩
  clear hr2 m2
  go_wp2
  go_ret
  exact ⟨r2, rfl, H2.out.1.trans ⟨fun h => ⟨Hr.out, h⟩, fun h => h.2⟩, Hm.out.trans H2.out.2⟩
end
end Go.Proofs.Ytlbfbjeilfcjeaa
