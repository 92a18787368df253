/-
  The texts CvWhere, one behind the other.
-/
import Derived.Test.YtkeeimdhlbdigabJoined1

/-
  What a call of package check's where does: two tests and two stores behind two calls and two boxes whose order is left open.
-/
namespace Go.Proofs.Ytkeeimdhlbdigab
open Go.RowKit
set_option linter.unusedVariables false
set_option linter.unusedSimpArgs false
set_option maxRecDepth 8000

theorem by_key {G : Prop} {A : Prop} (h1 : A → G) (h2 : A) : G := h1 h2

section
variable {P : Program} {ops : Array Oper} {Q : Exit → Act → World → Prop} {S : World → Prop}
/-- Three may come up. -/
theorem ol_three (i j k : Nat) {n : Nat} {listed : Array Bool} {a : Act} {w : World} (hB : (Region.ready .any ops listed == [i, j, k]) = true) (h : OlStep P ops Q S i n listed a w) (h2 : OlStep P ops Q S j n listed a w) (h3 : OlStep P ops Q S k n listed a w) : OrdL P ops Q S (n + 1) listed a w := by
  refine ⟨wpAnyH_all (by simpa using hB) (by simp) (fun x hx => ?_)⟩
  have hx' : x = i ∨ x = j ∨ x = k := by simpa using hx
  rcases hx' with rfl | rfl | rfl
  · exact h.out
  · exact h2.out
  · exact h3.out
theorem ol_cast {n : Nat} {listed listed' : Array Bool} {a : Act} {w : World} (e : listed = listed') (h : OrdL P ops Q S n listed' a w) : OrdL P ops Q S n listed a w := e ▸ h

/-- A register in a box is known anew. -/
theorem wpList_store_kn {rest : List Oper} {o : Oper} {a : Act} {w : World} (hgd : o.guard = none) (x y : Operand) (ho : o.op = .store 23 x y) (n j : Nat) (b : Int) (t : Bool) (hx : a.eval x = .pointer (some ⟨n, j * 2, none⟩)) (hy : a.eval y = .agg #[.int .i64 b, .bool t])
    (hi : (P.info? 23).map (·.size) = some 2) (s : KS) (T : TypeId) (hb : Blk w n (kv s) T) (hj : j < 8)
    (w' : World) (hw : w' = (w.setCell ⟨n, j * 2, none⟩ (.int .i64 b)).setCell ⟨n, j * 2 + 1, none⟩ (.bool t)) (h : wpList P ops Q rest (a.put o.dst undef) w') : wpList P ops Q (o :: rest) a w := by
  subst hw
  refine wpList_store_part hgd 23 x y ho n (j * 2) #[.int .i64 b, .bool t] hx hy hi (fun i hi => ?_) (by simp [Value.oneCell']) h
  have hi' : i < 2 := by simpa using hi
  refine ⟨?_, hb.frozen _⟩
  by_cases e : i = 0
  · subst e; rw [Nat.add_zero, hb.cell (kv_at s j hj).1]; rfl
  · obtain rfl : i = 1 := by omega
    rw [hb.cell (kv_at s j hj).2]; rfl
end
theorem info23s : (Try.prog.info? 23).map (·.size) = some 2 := by kernel_rfl

/-- What is known where a condition holds. -/
def whK (c a b : Int) (s : KS) : KS :=
  if c = 1 then setK (setK s a (Kn.less (s a.toNat) (s b.toNat))) b (Kn.less (s b.toNat) (s a.toNat)) else if c = 2 then s else if c = 3 then setK s a (Kn.less (s a.toNat) (s b.toNat)) else setK s b (Kn.less (s b.toNat) (s a.toNat))

/-- Where where stands behind its two calls. -/
structure WhB (w : World) (s : KS) (g9 g10 : Nat) (w' : World) : Prop where
  r : Blk w' w.heap.size (kv s) 104
  z : Blk w' (w.heap.size + 1) (kv zeroK) 104
  b9 : Blk w' g9 #[.int .i64 0, .bool false] 23
  b10 : Blk w' g10 #[.int .i64 0, .bool false] 23
  up : More w w'
  lt9 : w.heap.size + 2 ≤ g9
  lt10 : w.heap.size + 2 ≤ g10
  ne : g9 ≠ g10

set_option maxHeartbeats 4000000 in
theorem where_calls (s : KS) (c a b : Int) (w : World) (hc : c = 1 ∨ c = 2 ∨ c = 3 ∨ c = 4) (ha0 : 0 ≤ a) (ha1 : a < 8) (hb0 : 0 ≤ b) (hb1 : b < 8) :
    Calls Try.prog 71 #[.agg (kv s), .int .i64 c, .int .i64 a, .int .i64 b] w fun e w' => e = .returned (.agg (kv (whK c a b s))) ∧ More w w' := by
  suffices hP : ∀ P : Ending → World → Prop, (∀ w', More w w' → P (.returned (.agg (kv (whK c a b s)))) w') → Calls Try.prog 71 #[.agg (kv s), .int .i64 c, .int .i64 a, .int .i64 b] w P from hP _ (fun w' m => ⟨rfl, m⟩)
  intro P hP0
  have HP : Hid (∀ w', More w w' → P (.returned (.agg (kv (whK c a b s)))) w') := hP0
  clear hP0
  have Hc : Hid (c = 1 ∨ c = 2 ∨ c = 3 ∨ c = 4) := hc
  clear hc
  have ha8 : a.toNat < 8 := by omega
  have hb8 : b.toNat < 8 := by omega
  obtain ⟨W, HW⟩ : ∃ W : World, Hid (W = (w.alloc (.cells (kv s) 104)).alloc (.cells #[.int .i64 0, .bool false, .int .i64 0, .bool false, .int .i64 0, .bool false, .int .i64 0, .bool false, .int .i64 0, .bool false, .int .i64 0, .bool false, .int .i64 0, .bool false, .int .i64 0, .bool false] 104)) := ⟨_, rfl⟩
  have HB : Hid (Blk W w.heap.size (kv s) 104 ∧ Blk W (w.heap.size + 1) (kv zeroK) 104 ∧ More w W ∧ W.heap.size = w.heap.size + 2) := by
    rw [HW.out]
    refine ⟨(Blk.last _ _ _).alloc _ _, ?_, ((More.refl _).alloc _ _).alloc _ _, by simp⟩
    rw [kv_zero]
    exact (by simpa using Blk.last (w.alloc (.cells (kv s) 104)) #[.int .i64 0, .bool false, .int .i64 0, .bool false, .int .i64 0, .bool false, .int .i64 0, .bool false, .int .i64 0, .bool false, .int .i64 0, .bool false, .int .i64 0, .bool false, .int .i64 0, .bool false] 104)
  obtain ⟨S, HS⟩ : ∃ S : World → Prop, Hid (∀ w', S w' ↔ Blk w' w.heap.size (kv s) 104) := ⟨_, fun _ => Iff.rfl⟩
  have HSm : Hid (∀ w', More W w' → S w') := fun w' m => (HS.out _).2 (HB.out.1.more m)
  obtain ⟨xa, hxa⟩ : ∃ x, s a.toNat = x := ⟨_, rfl⟩
  obtain ⟨xb, hxb⟩ : ∃ x, s b.toNat = x := ⟨_, rfl⟩
  have k1 : ∀ i : { w' // S w' }, i.val.cell? ⟨w.heap.size, a.toNat * 2, none⟩ = some (.int .i64 xa.b) := fun i => by rw [((HS.out _).1 i.property).cell (kv_at _ _ ha8).1, hxa]
  have k2 : ∀ i : { w' // S w' }, i.val.cell? ⟨w.heap.size, a.toNat * 2 + 1, none⟩ = some (.bool xa.s) := fun i => by rw [((HS.out _).1 i.property).cell (kv_at _ _ ha8).2, hxa]
  have k3 : ∀ i : { w' // S w' }, i.val.cell? ⟨w.heap.size, b.toNat * 2, none⟩ = some (.int .i64 xb.b) := fun i => by rw [((HS.out _).1 i.property).cell (kv_at _ _ hb8).1, hxb]
  have k4 : ∀ i : { w' // S w' }, i.val.cell? ⟨w.heap.size, b.toNat * 2 + 1, none⟩ = some (.bool xb.s) := fun i => by rw [((HS.out _).1 i.property).cell (kv_at _ _ hb8).2, hxb]
  obtain ⟨la, hla⟩ : ∃ v, Kn.less xa xb = v := ⟨_, rfl⟩
  obtain ⟨lb, hlb⟩ : ∃ v, Kn.less xb xa = v := ⟨_, rfl⟩
  have c1 : ∀ w : World, Calls Try.prog 10 #[kn xa.b xa.s, kn xb.b xb.s] w fun e w' => e = .returned (kn la.b la.s) ∧ More w w' := fun w => hla ▸ less_calls xa.b xb.b xa.s xb.s w
  have c2 : ∀ w : World, Calls Try.prog 10 #[kn xb.b xb.s, kn xa.b xa.s] w fun e w' => e = .returned (kn lb.b lb.s) ∧ More w w' := fun w => hlb ▸ less_calls xb.b xa.b xb.s xa.s w
  have HK : Hid (whK c a b s = if c = 1 then setK (setK s a la) b lb else if c = 2 then s else if c = 3 then setK s a la else setK s b lb) := by
    show _ = _
    unfold whK
    rw [hxa, hxb, hla, hlb]
  clear hxa hxb hla hlb
  obtain ⟨xab, xas⟩ := xa
  obtain ⟨xbb, xbs⟩ := xb
  obtain ⟨lab, las⟩ := la
  obtain ⟨lbb, lbs⟩ := lb
  unfold kn at c1 c2
  dsimp only at k1 k2 k3 k4 c1 c2
  obtain ⟨cs, hcs⟩ : ∃ c, kv s = c := ⟨_, rfl⟩
  have hcs16 : cs.size = 16 := hcs ▸ kv_size s
  have Hcs : Hid (kv s = cs) := hcs
  rw [hcs] at HW
  rw [hcs]
  clear hcs
  have HS0 : S W.drew := HSm.out _ (More.refl _).drew
  have hne : Nonempty { w' // S w' } := ⟨⟨_, HS0⟩⟩
  go_enter Try.func71, Try.ntmps71
  go_wp2_with (fail)
  rw [← HW.out]
  clear hcs16
  refine wp_region_left (S := S) (by kernel_rfl) HS0 ?_
  refine ol_take 0 rfl (by kernel_rfl) HS0 (by kernel_rfl) (fun K hK => ?_); go_simp; refine hK _ _ ?_; clear hK K
  refine ol_take 1 rfl (by kernel_rfl) HS0 (by kernel_rfl) (fun K hK => ?_); go_simp; refine hK _ _ ?_; clear hK K
  refine ol_take 2 rfl (by kernel_rfl) HS0 (by kernel_rfl) (fun K hK => ?_); go_simp; refine hK _ _ ?_; clear hK K
  refine ol_take 3 rfl (by kernel_rfl) HS0 (by kernel_rfl) (fun K hK => ?_); go_simp; refine hK _ _ ?_; clear hK K
  refine ol_take 4 rfl (by kernel_rfl) HS0 (by kernel_rfl) (fun K hK => ?_); go_simp; refine hK _ _ ?_; clear hK K
  refine ol_take 5 rfl (by kernel_rfl) HS0 (by kernel_rfl) (fun K hK => ?_); go_simp; refine hK _ _ ?_; clear hK K
  refine ol_take 7 rfl (by kernel_rfl) HS0 (by kernel_rfl) (fun K hK => ?_); go_simp; refine hK _ _ ?_; clear hK K
  refine ol_take 8 rfl (by kernel_rfl) HS0 (by kernel_rfl) (fun K hK => ?_); go_simp; refine hK _ _ ?_; clear hK K
  refine ol_take 9 rfl (by kernel_rfl) HS0 (by kernel_rfl) (fun K hK => ?_); go_simp; refine hK _ _ ?_; clear hK K
  refine ol_take 10 rfl (by kernel_rfl) HS0 (by kernel_rfl) (fun K hK => ?_); go_simp; refine hK _ _ ?_; clear hK K
  refine ol_take 11 rfl (by kernel_rfl) HS0 (by kernel_rfl) (fun K hK => ?_); go_simp; refine hK _ _ ?_; clear hK K
  refine ol_take 12 rfl (by kernel_rfl) HS0 (by kernel_rfl) (fun K hK => ?_); go_simp; refine hK _ _ ?_; clear hK K
  obtain ⟨wd, Hwd⟩ : ∃ wd : World, Hid (wd = W.drew) := ⟨_, rfl⟩
  have Hm_ : Hid (More W wd) := Hwd.out ▸ (More.refl W).drew
  have Hsz : Hid (w.heap.size + 2 ≤ wd.heap.size) := by
    have h1 := HB.out.2.2.2
    have h2 := Hm_.out.size
    show _ ≤ _
    omega
  rw [← Hwd.out]
  clear k1 k2 k3 k4
  apply by_key
  · intro key
    refine ol_three 6 14 15 (by kernel_rfl) ?_ ?_ ?_
    · refine ol_step rfl (by kernel_rfl) (fun K hK => ?_); go_simp
      refine (c1 _).mono ?_
      rintro e w1 ⟨rfl, m_⟩
      have Hmw1 : Hid (More W w1) := Hm_.out.trans m_
      clear m_
      go_simp
      refine hK _ _ (HSm.out _ Hmw1.out) ?_; clear hK K
      refine ol_three 13 14 15 (by kernel_rfl) ?_ ?_ ?_
      · refine ol_step rfl (by kernel_rfl) (fun K hK => ?_); go_simp
        refine (c2 _).mono ?_
        rintro e w2 ⟨rfl, m_⟩
        have Hmw2 : Hid (More W w2) := Hmw1.out.trans m_
        clear m_
        go_simp
        refine hK _ _ (HSm.out _ Hmw2.out) ?_; clear hK K
        refine ol_two 14 15 (by kernel_rfl) ?_ ?_
        · refine ol_step rfl (by kernel_rfl) (fun K hK => ?_); go_simp
          obtain ⟨w3, Hw_⟩ : ∃ w_ : World, Hid (w_ = w2.alloc (.cells #[.int .i64 0, .bool false] 23)) := ⟨_, rfl⟩
          have m_ : More w2 w3 := Hw_.out ▸ (More.refl _).alloc _ _
          have Hmw3 : Hid (More W w3) := Hmw2.out.trans m_
          have Hb9w3 : Hid (Blk w3 w2.heap.size #[.int .i64 0, .bool false] 23) := Hw_.out ▸ Blk.last _ _ _
          have Hl9 : Hid (w.heap.size + 2 ≤ w2.heap.size) := Nat.le_trans Hsz.out (by have h1 := Hmw2.out.size; have h2 := HB.out.2.2.2; have h3 := Hm_.out.size; have h4 := Hwd.out; rw [h4]; simpa using h1)
          rw [← Hw_.out]
          clear m_ Hw_
          refine hK _ _ (HSm.out _ Hmw3.out) ?_; clear hK K
          refine ol_one 15 (by kernel_rfl) ?_
          · refine ol_step rfl (by kernel_rfl) (fun K hK => ?_); go_simp
            obtain ⟨w4, Hw_⟩ : ∃ w_ : World, Hid (w_ = w3.alloc (.cells #[.int .i64 0, .bool false] 23)) := ⟨_, rfl⟩
            have m_ : More w3 w4 := Hw_.out ▸ (More.refl _).alloc _ _
            have Hmw4 : Hid (More W w4) := Hmw3.out.trans m_
            have Hb10w4 : Hid (Blk w4 w3.heap.size #[.int .i64 0, .bool false] 23) := Hw_.out ▸ Blk.last _ _ _
            have Hl10 : Hid (w.heap.size + 2 ≤ w3.heap.size) := Nat.le_trans Hsz.out (by have h1 := Hmw3.out.size; have h2 := HB.out.2.2.2; have h3 := Hm_.out.size; have h4 := Hwd.out; rw [h4]; simpa using h1)
            have Hb9w4 : Hid (Blk w4 (w2.heap.size) #[.int .i64 0, .bool false] 23) := Hb9w3.out.more m_
            have Hne : Hid (w2.heap.size ≠ w3.heap.size) := Nat.ne_of_lt Hb9w3.out.lt
            rw [← Hw_.out]
            clear m_ Hw_
            refine hK _ _ (HSm.out _ Hmw4.out) ?_; clear hK K
            have F : Hid (WhB w s (w2.heap.size) (w3.heap.size) w4) := ⟨HB.out.1.more Hmw4.out, HB.out.2.1.more Hmw4.out, Hb9w4.out, Hb10w4.out, HB.out.2.2.1.trans Hmw4.out, Hl9.out, Hl10.out, Hne.out⟩
            refine ol_cast (listed' := #[true, true, true, true, true, true, true, true, true, true, true, true, true, true, true, true, false, false]) (by kernel_rfl) ?_
            clear Hl9 Hl10 Hne Hb9w4 Hb10w4
            generalize w3.heap.size = g10 at F ⊢
            generalize w2.heap.size = g9 at F ⊢
            clear Hmw4
            revert w4 g10 g9
            exact key
        · refine ol_step rfl (by kernel_rfl) (fun K hK => ?_); go_simp
          obtain ⟨w5, Hw_⟩ : ∃ w_ : World, Hid (w_ = w2.alloc (.cells #[.int .i64 0, .bool false] 23)) := ⟨_, rfl⟩
          have m_ : More w2 w5 := Hw_.out ▸ (More.refl _).alloc _ _
          have Hmw5 : Hid (More W w5) := Hmw2.out.trans m_
          have Hb10w5 : Hid (Blk w5 w2.heap.size #[.int .i64 0, .bool false] 23) := Hw_.out ▸ Blk.last _ _ _
          have Hl10 : Hid (w.heap.size + 2 ≤ w2.heap.size) := Nat.le_trans Hsz.out (by have h1 := Hmw2.out.size; have h2 := HB.out.2.2.2; have h3 := Hm_.out.size; have h4 := Hwd.out; rw [h4]; simpa using h1)
          rw [← Hw_.out]
          clear m_ Hw_
          refine hK _ _ (HSm.out _ Hmw5.out) ?_; clear hK K
          refine ol_one 14 (by kernel_rfl) ?_
          · refine ol_step rfl (by kernel_rfl) (fun K hK => ?_); go_simp
            obtain ⟨w6, Hw_⟩ : ∃ w_ : World, Hid (w_ = w5.alloc (.cells #[.int .i64 0, .bool false] 23)) := ⟨_, rfl⟩
            have m_ : More w5 w6 := Hw_.out ▸ (More.refl _).alloc _ _
            have Hmw6 : Hid (More W w6) := Hmw5.out.trans m_
            have Hb9w6 : Hid (Blk w6 w5.heap.size #[.int .i64 0, .bool false] 23) := Hw_.out ▸ Blk.last _ _ _
            have Hl9 : Hid (w.heap.size + 2 ≤ w5.heap.size) := Nat.le_trans Hsz.out (by have h1 := Hmw5.out.size; have h2 := HB.out.2.2.2; have h3 := Hm_.out.size; have h4 := Hwd.out; rw [h4]; simpa using h1)
            have Hb10w6 : Hid (Blk w6 (w2.heap.size) #[.int .i64 0, .bool false] 23) := Hb10w5.out.more m_
            have Hne : Hid (w5.heap.size ≠ w2.heap.size) := Nat.ne_of_gt Hb10w5.out.lt
            rw [← Hw_.out]
            clear m_ Hw_
            refine hK _ _ (HSm.out _ Hmw6.out) ?_; clear hK K
            have F : Hid (WhB w s (w5.heap.size) (w2.heap.size) w6) := ⟨HB.out.1.more Hmw6.out, HB.out.2.1.more Hmw6.out, Hb9w6.out, Hb10w6.out, HB.out.2.2.1.trans Hmw6.out, Hl9.out, Hl10.out, Hne.out⟩
            refine ol_cast (listed' := #[true, true, true, true, true, true, true, true, true, true, true, true, true, true, true, true, false, false]) (by kernel_rfl) ?_
            exact key _ _ _ F
      · refine ol_step rfl (by kernel_rfl) (fun K hK => ?_); go_simp
        obtain ⟨w7, Hw_⟩ : ∃ w_ : World, Hid (w_ = w1.alloc (.cells #[.int .i64 0, .bool false] 23)) := ⟨_, rfl⟩
        have m_ : More w1 w7 := Hw_.out ▸ (More.refl _).alloc _ _
        have Hmw7 : Hid (More W w7) := Hmw1.out.trans m_
        have Hb9w7 : Hid (Blk w7 w1.heap.size #[.int .i64 0, .bool false] 23) := Hw_.out ▸ Blk.last _ _ _
        have Hl9 : Hid (w.heap.size + 2 ≤ w1.heap.size) := Nat.le_trans Hsz.out (by have h1 := Hmw1.out.size; have h2 := HB.out.2.2.2; have h3 := Hm_.out.size; have h4 := Hwd.out; rw [h4]; simpa using h1)
        rw [← Hw_.out]
        clear m_ Hw_
        refine hK _ _ (HSm.out _ Hmw7.out) ?_; clear hK K
        refine ol_two 13 15 (by kernel_rfl) ?_ ?_
        · refine ol_step rfl (by kernel_rfl) (fun K hK => ?_); go_simp
          refine (c2 _).mono ?_
          rintro e w8 ⟨rfl, m_⟩
          have Hmw8 : Hid (More W w8) := Hmw7.out.trans m_
          have Hb9w8 : Hid (Blk w8 (w1.heap.size) #[.int .i64 0, .bool false] 23) := Hb9w7.out.more m_
          clear m_
          go_simp
          refine hK _ _ (HSm.out _ Hmw8.out) ?_; clear hK K
          refine ol_one 15 (by kernel_rfl) ?_
          · refine ol_step rfl (by kernel_rfl) (fun K hK => ?_); go_simp
            obtain ⟨w9, Hw_⟩ : ∃ w_ : World, Hid (w_ = w8.alloc (.cells #[.int .i64 0, .bool false] 23)) := ⟨_, rfl⟩
            have m_ : More w8 w9 := Hw_.out ▸ (More.refl _).alloc _ _
            have Hmw9 : Hid (More W w9) := Hmw8.out.trans m_
            have Hb10w9 : Hid (Blk w9 w8.heap.size #[.int .i64 0, .bool false] 23) := Hw_.out ▸ Blk.last _ _ _
            have Hl10 : Hid (w.heap.size + 2 ≤ w8.heap.size) := Nat.le_trans Hsz.out (by have h1 := Hmw8.out.size; have h2 := HB.out.2.2.2; have h3 := Hm_.out.size; have h4 := Hwd.out; rw [h4]; simpa using h1)
            have Hb9w9 : Hid (Blk w9 (w1.heap.size) #[.int .i64 0, .bool false] 23) := Hb9w8.out.more m_
            have Hne : Hid (w1.heap.size ≠ w8.heap.size) := Nat.ne_of_lt Hb9w8.out.lt
            rw [← Hw_.out]
            clear m_ Hw_
            refine hK _ _ (HSm.out _ Hmw9.out) ?_; clear hK K
            have F : Hid (WhB w s (w1.heap.size) (w8.heap.size) w9) := ⟨HB.out.1.more Hmw9.out, HB.out.2.1.more Hmw9.out, Hb9w9.out, Hb10w9.out, HB.out.2.2.1.trans Hmw9.out, Hl9.out, Hl10.out, Hne.out⟩
            refine ol_cast (listed' := #[true, true, true, true, true, true, true, true, true, true, true, true, true, true, true, true, false, false]) (by kernel_rfl) ?_
            exact key _ _ _ F
        · refine ol_step rfl (by kernel_rfl) (fun K hK => ?_); go_simp
          obtain ⟨w10, Hw_⟩ : ∃ w_ : World, Hid (w_ = w7.alloc (.cells #[.int .i64 0, .bool false] 23)) := ⟨_, rfl⟩
          have m_ : More w7 w10 := Hw_.out ▸ (More.refl _).alloc _ _
          have Hmw10 : Hid (More W w10) := Hmw7.out.trans m_
          have Hb10w10 : Hid (Blk w10 w7.heap.size #[.int .i64 0, .bool false] 23) := Hw_.out ▸ Blk.last _ _ _
          have Hl10 : Hid (w.heap.size + 2 ≤ w7.heap.size) := Nat.le_trans Hsz.out (by have h1 := Hmw7.out.size; have h2 := HB.out.2.2.2; have h3 := Hm_.out.size; have h4 := Hwd.out; rw [h4]; simpa using h1)
          have Hb9w10 : Hid (Blk w10 (w1.heap.size) #[.int .i64 0, .bool false] 23) := Hb9w7.out.more m_
          have Hne : Hid (w1.heap.size ≠ w7.heap.size) := Nat.ne_of_lt Hb9w7.out.lt
          rw [← Hw_.out]
          clear m_ Hw_
          refine hK _ _ (HSm.out _ Hmw10.out) ?_; clear hK K
          refine ol_one 13 (by kernel_rfl) ?_
          · refine ol_step rfl (by kernel_rfl) (fun K hK => ?_); go_simp
            refine (c2 _).mono ?_
            rintro e w11 ⟨rfl, m_⟩
            have Hmw11 : Hid (More W w11) := Hmw10.out.trans m_
            have Hb9w11 : Hid (Blk w11 (w1.heap.size) #[.int .i64 0, .bool false] 23) := Hb9w10.out.more m_
            have Hb10w11 : Hid (Blk w11 (w7.heap.size) #[.int .i64 0, .bool false] 23) := Hb10w10.out.more m_
            clear m_
            go_simp
            refine hK _ _ (HSm.out _ Hmw11.out) ?_; clear hK K
            have F : Hid (WhB w s (w1.heap.size) (w7.heap.size) w11) := ⟨HB.out.1.more Hmw11.out, HB.out.2.1.more Hmw11.out, Hb9w11.out, Hb10w11.out, HB.out.2.2.1.trans Hmw11.out, Hl9.out, Hl10.out, Hne.out⟩
            refine ol_cast (listed' := #[true, true, true, true, true, true, true, true, true, true, true, true, true, true, true, true, false, false]) (by kernel_rfl) ?_
            exact key _ _ _ F
      · refine ol_step rfl (by kernel_rfl) (fun K hK => ?_); go_simp
        obtain ⟨w12, Hw_⟩ : ∃ w_ : World, Hid (w_ = w1.alloc (.cells #[.int .i64 0, .bool false] 23)) := ⟨_, rfl⟩
        have m_ : More w1 w12 := Hw_.out ▸ (More.refl _).alloc _ _
        have Hmw12 : Hid (More W w12) := Hmw1.out.trans m_
        have Hb10w12 : Hid (Blk w12 w1.heap.size #[.int .i64 0, .bool false] 23) := Hw_.out ▸ Blk.last _ _ _
        have Hl10 : Hid (w.heap.size + 2 ≤ w1.heap.size) := Nat.le_trans Hsz.out (by have h1 := Hmw1.out.size; have h2 := HB.out.2.2.2; have h3 := Hm_.out.size; have h4 := Hwd.out; rw [h4]; simpa using h1)
        rw [← Hw_.out]
        clear m_ Hw_
        refine hK _ _ (HSm.out _ Hmw12.out) ?_; clear hK K
        refine ol_two 13 14 (by kernel_rfl) ?_ ?_
        · refine ol_step rfl (by kernel_rfl) (fun K hK => ?_); go_simp
          refine (c2 _).mono ?_
          rintro e w13 ⟨rfl, m_⟩
          have Hmw13 : Hid (More W w13) := Hmw12.out.trans m_
          have Hb10w13 : Hid (Blk w13 (w1.heap.size) #[.int .i64 0, .bool false] 23) := Hb10w12.out.more m_
          clear m_
          go_simp
          refine hK _ _ (HSm.out _ Hmw13.out) ?_; clear hK K
          refine ol_one 14 (by kernel_rfl) ?_
          · refine ol_step rfl (by kernel_rfl) (fun K hK => ?_); go_simp
            obtain ⟨w14, Hw_⟩ : ∃ w_ : World, Hid (w_ = w13.alloc (.cells #[.int .i64 0, .bool false] 23)) := ⟨_, rfl⟩
            have m_ : More w13 w14 := Hw_.out ▸ (More.refl _).alloc _ _
            have Hmw14 : Hid (More W w14) := Hmw13.out.trans m_
            have Hb9w14 : Hid (Blk w14 w13.heap.size #[.int .i64 0, .bool false] 23) := Hw_.out ▸ Blk.last _ _ _
            have Hl9 : Hid (w.heap.size + 2 ≤ w13.heap.size) := Nat.le_trans Hsz.out (by have h1 := Hmw13.out.size; have h2 := HB.out.2.2.2; have h3 := Hm_.out.size; have h4 := Hwd.out; rw [h4]; simpa using h1)
            have Hb10w14 : Hid (Blk w14 (w1.heap.size) #[.int .i64 0, .bool false] 23) := Hb10w13.out.more m_
            have Hne : Hid (w13.heap.size ≠ w1.heap.size) := Nat.ne_of_gt Hb10w13.out.lt
            rw [← Hw_.out]
            clear m_ Hw_
            refine hK _ _ (HSm.out _ Hmw14.out) ?_; clear hK K
            have F : Hid (WhB w s (w13.heap.size) (w1.heap.size) w14) := ⟨HB.out.1.more Hmw14.out, HB.out.2.1.more Hmw14.out, Hb9w14.out, Hb10w14.out, HB.out.2.2.1.trans Hmw14.out, Hl9.out, Hl10.out, Hne.out⟩
            refine ol_cast (listed' := #[true, true, true, true, true, true, true, true, true, true, true, true, true, true, true, true, false, false]) (by kernel_rfl) ?_
            exact key _ _ _ F
        · refine ol_step rfl (by kernel_rfl) (fun K hK => ?_); go_simp
          obtain ⟨w15, Hw_⟩ : ∃ w_ : World, Hid (w_ = w12.alloc (.cells #[.int .i64 0, .bool false] 23)) := ⟨_, rfl⟩
          have m_ : More w12 w15 := Hw_.out ▸ (More.refl _).alloc _ _
          have Hmw15 : Hid (More W w15) := Hmw12.out.trans m_
          have Hb9w15 : Hid (Blk w15 w12.heap.size #[.int .i64 0, .bool false] 23) := Hw_.out ▸ Blk.last _ _ _
          have Hl9 : Hid (w.heap.size + 2 ≤ w12.heap.size) := Nat.le_trans Hsz.out (by have h1 := Hmw12.out.size; have h2 := HB.out.2.2.2; have h3 := Hm_.out.size; have h4 := Hwd.out; rw [h4]; simpa using h1)
          have Hb10w15 : Hid (Blk w15 (w1.heap.size) #[.int .i64 0, .bool false] 23) := Hb10w12.out.more m_
          have Hne : Hid (w12.heap.size ≠ w1.heap.size) := Nat.ne_of_gt Hb10w12.out.lt
          rw [← Hw_.out]
          clear m_ Hw_
          refine hK _ _ (HSm.out _ Hmw15.out) ?_; clear hK K
          refine ol_one 13 (by kernel_rfl) ?_
          · refine ol_step rfl (by kernel_rfl) (fun K hK => ?_); go_simp
            refine (c2 _).mono ?_
            rintro e w16 ⟨rfl, m_⟩
            have Hmw16 : Hid (More W w16) := Hmw15.out.trans m_
            have Hb9w16 : Hid (Blk w16 (w12.heap.size) #[.int .i64 0, .bool false] 23) := Hb9w15.out.more m_
            have Hb10w16 : Hid (Blk w16 (w1.heap.size) #[.int .i64 0, .bool false] 23) := Hb10w15.out.more m_
            clear m_
            go_simp
            refine hK _ _ (HSm.out _ Hmw16.out) ?_; clear hK K
            have F : Hid (WhB w s (w12.heap.size) (w1.heap.size) w16) := ⟨HB.out.1.more Hmw16.out, HB.out.2.1.more Hmw16.out, Hb9w16.out, Hb10w16.out, HB.out.2.2.1.trans Hmw16.out, Hl9.out, Hl10.out, Hne.out⟩
            refine ol_cast (listed' := #[true, true, true, true, true, true, true, true, true, true, true, true, true, true, true, true, false, false]) (by kernel_rfl) ?_
            exact key _ _ _ F
    · refine ol_step rfl (by kernel_rfl) (fun K hK => ?_); go_simp
      obtain ⟨w17, Hw_⟩ : ∃ w_ : World, Hid (w_ = wd.alloc (.cells #[.int .i64 0, .bool false] 23)) := ⟨_, rfl⟩
      have m_ : More wd w17 := Hw_.out ▸ (More.refl _).alloc _ _
      have Hmw17 : Hid (More W w17) := Hm_.out.trans m_
      have Hb9w17 : Hid (Blk w17 wd.heap.size #[.int .i64 0, .bool false] 23) := Hw_.out ▸ Blk.last _ _ _
      have Hl9 : Hid (w.heap.size + 2 ≤ wd.heap.size) := Nat.le_trans Hsz.out (Nat.le_refl _)
      rw [← Hw_.out]
      clear m_ Hw_
      refine hK _ _ (HSm.out _ Hmw17.out) ?_; clear hK K
      refine ol_two 6 15 (by kernel_rfl) ?_ ?_
      · refine ol_step rfl (by kernel_rfl) (fun K hK => ?_); go_simp
        refine (c1 _).mono ?_
        rintro e w18 ⟨rfl, m_⟩
        have Hmw18 : Hid (More W w18) := Hmw17.out.trans m_
        have Hb9w18 : Hid (Blk w18 (wd.heap.size) #[.int .i64 0, .bool false] 23) := Hb9w17.out.more m_
        clear m_
        go_simp
        refine hK _ _ (HSm.out _ Hmw18.out) ?_; clear hK K
        refine ol_two 13 15 (by kernel_rfl) ?_ ?_
        · refine ol_step rfl (by kernel_rfl) (fun K hK => ?_); go_simp
          refine (c2 _).mono ?_
          rintro e w19 ⟨rfl, m_⟩
          have Hmw19 : Hid (More W w19) := Hmw18.out.trans m_
          have Hb9w19 : Hid (Blk w19 (wd.heap.size) #[.int .i64 0, .bool false] 23) := Hb9w18.out.more m_
          clear m_
          go_simp
          refine hK _ _ (HSm.out _ Hmw19.out) ?_; clear hK K
          refine ol_one 15 (by kernel_rfl) ?_
          · refine ol_step rfl (by kernel_rfl) (fun K hK => ?_); go_simp
            obtain ⟨w20, Hw_⟩ : ∃ w_ : World, Hid (w_ = w19.alloc (.cells #[.int .i64 0, .bool false] 23)) := ⟨_, rfl⟩
            have m_ : More w19 w20 := Hw_.out ▸ (More.refl _).alloc _ _
            have Hmw20 : Hid (More W w20) := Hmw19.out.trans m_
            have Hb10w20 : Hid (Blk w20 w19.heap.size #[.int .i64 0, .bool false] 23) := Hw_.out ▸ Blk.last _ _ _
            have Hl10 : Hid (w.heap.size + 2 ≤ w19.heap.size) := Nat.le_trans Hsz.out (by have h1 := Hmw19.out.size; have h2 := HB.out.2.2.2; have h3 := Hm_.out.size; have h4 := Hwd.out; rw [h4]; simpa using h1)
            have Hb9w20 : Hid (Blk w20 (wd.heap.size) #[.int .i64 0, .bool false] 23) := Hb9w19.out.more m_
            have Hne : Hid (wd.heap.size ≠ w19.heap.size) := Nat.ne_of_lt Hb9w19.out.lt
            rw [← Hw_.out]
            clear m_ Hw_
            refine hK _ _ (HSm.out _ Hmw20.out) ?_; clear hK K
            have F : Hid (WhB w s (wd.heap.size) (w19.heap.size) w20) := ⟨HB.out.1.more Hmw20.out, HB.out.2.1.more Hmw20.out, Hb9w20.out, Hb10w20.out, HB.out.2.2.1.trans Hmw20.out, Hl9.out, Hl10.out, Hne.out⟩
            refine ol_cast (listed' := #[true, true, true, true, true, true, true, true, true, true, true, true, true, true, true, true, false, false]) (by kernel_rfl) ?_
            exact key _ _ _ F
        · refine ol_step rfl (by kernel_rfl) (fun K hK => ?_); go_simp
          obtain ⟨w21, Hw_⟩ : ∃ w_ : World, Hid (w_ = w18.alloc (.cells #[.int .i64 0, .bool false] 23)) := ⟨_, rfl⟩
          have m_ : More w18 w21 := Hw_.out ▸ (More.refl _).alloc _ _
          have Hmw21 : Hid (More W w21) := Hmw18.out.trans m_
          have Hb10w21 : Hid (Blk w21 w18.heap.size #[.int .i64 0, .bool false] 23) := Hw_.out ▸ Blk.last _ _ _
          have Hl10 : Hid (w.heap.size + 2 ≤ w18.heap.size) := Nat.le_trans Hsz.out (by have h1 := Hmw18.out.size; have h2 := HB.out.2.2.2; have h3 := Hm_.out.size; have h4 := Hwd.out; rw [h4]; simpa using h1)
          have Hb9w21 : Hid (Blk w21 (wd.heap.size) #[.int .i64 0, .bool false] 23) := Hb9w18.out.more m_
          have Hne : Hid (wd.heap.size ≠ w18.heap.size) := Nat.ne_of_lt Hb9w18.out.lt
          rw [← Hw_.out]
          clear m_ Hw_
          refine hK _ _ (HSm.out _ Hmw21.out) ?_; clear hK K
          refine ol_one 13 (by kernel_rfl) ?_
          · refine ol_step rfl (by kernel_rfl) (fun K hK => ?_); go_simp
            refine (c2 _).mono ?_
            rintro e w22 ⟨rfl, m_⟩
            have Hmw22 : Hid (More W w22) := Hmw21.out.trans m_
            have Hb9w22 : Hid (Blk w22 (wd.heap.size) #[.int .i64 0, .bool false] 23) := Hb9w21.out.more m_
            have Hb10w22 : Hid (Blk w22 (w18.heap.size) #[.int .i64 0, .bool false] 23) := Hb10w21.out.more m_
            clear m_
            go_simp
            refine hK _ _ (HSm.out _ Hmw22.out) ?_; clear hK K
            have F : Hid (WhB w s (wd.heap.size) (w18.heap.size) w22) := ⟨HB.out.1.more Hmw22.out, HB.out.2.1.more Hmw22.out, Hb9w22.out, Hb10w22.out, HB.out.2.2.1.trans Hmw22.out, Hl9.out, Hl10.out, Hne.out⟩
            refine ol_cast (listed' := #[true, true, true, true, true, true, true, true, true, true, true, true, true, true, true, true, false, false]) (by kernel_rfl) ?_
            exact key _ _ _ F
      · refine ol_step rfl (by kernel_rfl) (fun K hK => ?_); go_simp
        obtain ⟨w23, Hw_⟩ : ∃ w_ : World, Hid (w_ = w17.alloc (.cells #[.int .i64 0, .bool false] 23)) := ⟨_, rfl⟩
        have m_ : More w17 w23 := Hw_.out ▸ (More.refl _).alloc _ _
        have Hmw23 : Hid (More W w23) := Hmw17.out.trans m_
        have Hb10w23 : Hid (Blk w23 w17.heap.size #[.int .i64 0, .bool false] 23) := Hw_.out ▸ Blk.last _ _ _
        have Hl10 : Hid (w.heap.size + 2 ≤ w17.heap.size) := Nat.le_trans Hsz.out (by have h1 := Hmw17.out.size; have h2 := HB.out.2.2.2; have h3 := Hm_.out.size; have h4 := Hwd.out; rw [h4]; simpa using h1)
        have Hb9w23 : Hid (Blk w23 (wd.heap.size) #[.int .i64 0, .bool false] 23) := Hb9w17.out.more m_
        have Hne : Hid (wd.heap.size ≠ w17.heap.size) := Nat.ne_of_lt Hb9w17.out.lt
        rw [← Hw_.out]
        clear m_ Hw_
        refine hK _ _ (HSm.out _ Hmw23.out) ?_; clear hK K
        refine ol_one 6 (by kernel_rfl) ?_
        · refine ol_step rfl (by kernel_rfl) (fun K hK => ?_); go_simp
          refine (c1 _).mono ?_
          rintro e w24 ⟨rfl, m_⟩
          have Hmw24 : Hid (More W w24) := Hmw23.out.trans m_
          have Hb9w24 : Hid (Blk w24 (wd.heap.size) #[.int .i64 0, .bool false] 23) := Hb9w23.out.more m_
          have Hb10w24 : Hid (Blk w24 (w17.heap.size) #[.int .i64 0, .bool false] 23) := Hb10w23.out.more m_
          clear m_
          go_simp
          refine hK _ _ (HSm.out _ Hmw24.out) ?_; clear hK K
          refine ol_one 13 (by kernel_rfl) ?_
          · refine ol_step rfl (by kernel_rfl) (fun K hK => ?_); go_simp
            refine (c2 _).mono ?_
            rintro e w25 ⟨rfl, m_⟩
            have Hmw25 : Hid (More W w25) := Hmw24.out.trans m_
            have Hb9w25 : Hid (Blk w25 (wd.heap.size) #[.int .i64 0, .bool false] 23) := Hb9w24.out.more m_
            have Hb10w25 : Hid (Blk w25 (w17.heap.size) #[.int .i64 0, .bool false] 23) := Hb10w24.out.more m_
            clear m_
            go_simp
            refine hK _ _ (HSm.out _ Hmw25.out) ?_; clear hK K
            have F : Hid (WhB w s (wd.heap.size) (w17.heap.size) w25) := ⟨HB.out.1.more Hmw25.out, HB.out.2.1.more Hmw25.out, Hb9w25.out, Hb10w25.out, HB.out.2.2.1.trans Hmw25.out, Hl9.out, Hl10.out, Hne.out⟩
            refine ol_cast (listed' := #[true, true, true, true, true, true, true, true, true, true, true, true, true, true, true, true, false, false]) (by kernel_rfl) ?_
            exact key _ _ _ F
    · refine ol_step rfl (by kernel_rfl) (fun K hK => ?_); go_simp
      obtain ⟨w26, Hw_⟩ : ∃ w_ : World, Hid (w_ = wd.alloc (.cells #[.int .i64 0, .bool false] 23)) := ⟨_, rfl⟩
      have m_ : More wd w26 := Hw_.out ▸ (More.refl _).alloc _ _
      have Hmw26 : Hid (More W w26) := Hm_.out.trans m_
      have Hb10w26 : Hid (Blk w26 wd.heap.size #[.int .i64 0, .bool false] 23) := Hw_.out ▸ Blk.last _ _ _
      have Hl10 : Hid (w.heap.size + 2 ≤ wd.heap.size) := Nat.le_trans Hsz.out (Nat.le_refl _)
      rw [← Hw_.out]
      clear m_ Hw_
      refine hK _ _ (HSm.out _ Hmw26.out) ?_; clear hK K
      refine ol_two 6 14 (by kernel_rfl) ?_ ?_
      · refine ol_step rfl (by kernel_rfl) (fun K hK => ?_); go_simp
        refine (c1 _).mono ?_
        rintro e w27 ⟨rfl, m_⟩
        have Hmw27 : Hid (More W w27) := Hmw26.out.trans m_
        have Hb10w27 : Hid (Blk w27 (wd.heap.size) #[.int .i64 0, .bool false] 23) := Hb10w26.out.more m_
        clear m_
        go_simp
        refine hK _ _ (HSm.out _ Hmw27.out) ?_; clear hK K
        refine ol_two 13 14 (by kernel_rfl) ?_ ?_
        · refine ol_step rfl (by kernel_rfl) (fun K hK => ?_); go_simp
          refine (c2 _).mono ?_
          rintro e w28 ⟨rfl, m_⟩
          have Hmw28 : Hid (More W w28) := Hmw27.out.trans m_
          have Hb10w28 : Hid (Blk w28 (wd.heap.size) #[.int .i64 0, .bool false] 23) := Hb10w27.out.more m_
          clear m_
          go_simp
          refine hK _ _ (HSm.out _ Hmw28.out) ?_; clear hK K
          refine ol_one 14 (by kernel_rfl) ?_
          · refine ol_step rfl (by kernel_rfl) (fun K hK => ?_); go_simp
            obtain ⟨w29, Hw_⟩ : ∃ w_ : World, Hid (w_ = w28.alloc (.cells #[.int .i64 0, .bool false] 23)) := ⟨_, rfl⟩
            have m_ : More w28 w29 := Hw_.out ▸ (More.refl _).alloc _ _
            have Hmw29 : Hid (More W w29) := Hmw28.out.trans m_
            have Hb9w29 : Hid (Blk w29 w28.heap.size #[.int .i64 0, .bool false] 23) := Hw_.out ▸ Blk.last _ _ _
            have Hl9 : Hid (w.heap.size + 2 ≤ w28.heap.size) := Nat.le_trans Hsz.out (by have h1 := Hmw28.out.size; have h2 := HB.out.2.2.2; have h3 := Hm_.out.size; have h4 := Hwd.out; rw [h4]; simpa using h1)
            have Hb10w29 : Hid (Blk w29 (wd.heap.size) #[.int .i64 0, .bool false] 23) := Hb10w28.out.more m_
            have Hne : Hid (w28.heap.size ≠ wd.heap.size) := Nat.ne_of_gt Hb10w28.out.lt
            rw [← Hw_.out]
            clear m_ Hw_
            refine hK _ _ (HSm.out _ Hmw29.out) ?_; clear hK K
            have F : Hid (WhB w s (w28.heap.size) (wd.heap.size) w29) := ⟨HB.out.1.more Hmw29.out, HB.out.2.1.more Hmw29.out, Hb9w29.out, Hb10w29.out, HB.out.2.2.1.trans Hmw29.out, Hl9.out, Hl10.out, Hne.out⟩
            refine ol_cast (listed' := #[true, true, true, true, true, true, true, true, true, true, true, true, true, true, true, true, false, false]) (by kernel_rfl) ?_
            exact key _ _ _ F
        · refine ol_step rfl (by kernel_rfl) (fun K hK => ?_); go_simp
          obtain ⟨w30, Hw_⟩ : ∃ w_ : World, Hid (w_ = w27.alloc (.cells #[.int .i64 0, .bool false] 23)) := ⟨_, rfl⟩
          have m_ : More w27 w30 := Hw_.out ▸ (More.refl _).alloc _ _
          have Hmw30 : Hid (More W w30) := Hmw27.out.trans m_
          have Hb9w30 : Hid (Blk w30 w27.heap.size #[.int .i64 0, .bool false] 23) := Hw_.out ▸ Blk.last _ _ _
          have Hl9 : Hid (w.heap.size + 2 ≤ w27.heap.size) := Nat.le_trans Hsz.out (by have h1 := Hmw27.out.size; have h2 := HB.out.2.2.2; have h3 := Hm_.out.size; have h4 := Hwd.out; rw [h4]; simpa using h1)
          have Hb10w30 : Hid (Blk w30 (wd.heap.size) #[.int .i64 0, .bool false] 23) := Hb10w27.out.more m_
          have Hne : Hid (w27.heap.size ≠ wd.heap.size) := Nat.ne_of_gt Hb10w27.out.lt
          rw [← Hw_.out]
          clear m_ Hw_
          refine hK _ _ (HSm.out _ Hmw30.out) ?_; clear hK K
          refine ol_one 13 (by kernel_rfl) ?_
          · refine ol_step rfl (by kernel_rfl) (fun K hK => ?_); go_simp
            refine (c2 _).mono ?_
            rintro e w31 ⟨rfl, m_⟩
            have Hmw31 : Hid (More W w31) := Hmw30.out.trans m_
            have Hb9w31 : Hid (Blk w31 (w27.heap.size) #[.int .i64 0, .bool false] 23) := Hb9w30.out.more m_
            have Hb10w31 : Hid (Blk w31 (wd.heap.size) #[.int .i64 0, .bool false] 23) := Hb10w30.out.more m_
            clear m_
            go_simp
            refine hK _ _ (HSm.out _ Hmw31.out) ?_; clear hK K
            have F : Hid (WhB w s (w27.heap.size) (wd.heap.size) w31) := ⟨HB.out.1.more Hmw31.out, HB.out.2.1.more Hmw31.out, Hb9w31.out, Hb10w31.out, HB.out.2.2.1.trans Hmw31.out, Hl9.out, Hl10.out, Hne.out⟩
            refine ol_cast (listed' := #[true, true, true, true, true, true, true, true, true, true, true, true, true, true, true, true, false, false]) (by kernel_rfl) ?_
            exact key _ _ _ F
      · refine ol_step rfl (by kernel_rfl) (fun K hK => ?_); go_simp
        obtain ⟨w32, Hw_⟩ : ∃ w_ : World, Hid (w_ = w26.alloc (.cells #[.int .i64 0, .bool false] 23)) := ⟨_, rfl⟩
        have m_ : More w26 w32 := Hw_.out ▸ (More.refl _).alloc _ _
        have Hmw32 : Hid (More W w32) := Hmw26.out.trans m_
        have Hb9w32 : Hid (Blk w32 w26.heap.size #[.int .i64 0, .bool false] 23) := Hw_.out ▸ Blk.last _ _ _
        have Hl9 : Hid (w.heap.size + 2 ≤ w26.heap.size) := Nat.le_trans Hsz.out (by have h1 := Hmw26.out.size; have h2 := HB.out.2.2.2; have h3 := Hm_.out.size; have h4 := Hwd.out; rw [h4]; simpa using h1)
        have Hb10w32 : Hid (Blk w32 (wd.heap.size) #[.int .i64 0, .bool false] 23) := Hb10w26.out.more m_
        have Hne : Hid (w26.heap.size ≠ wd.heap.size) := Nat.ne_of_gt Hb10w26.out.lt
        rw [← Hw_.out]
        clear m_ Hw_
        refine hK _ _ (HSm.out _ Hmw32.out) ?_; clear hK K
        refine ol_one 6 (by kernel_rfl) ?_
        · refine ol_step rfl (by kernel_rfl) (fun K hK => ?_); go_simp
          refine (c1 _).mono ?_
          rintro e w33 ⟨rfl, m_⟩
          have Hmw33 : Hid (More W w33) := Hmw32.out.trans m_
          have Hb9w33 : Hid (Blk w33 (w26.heap.size) #[.int .i64 0, .bool false] 23) := Hb9w32.out.more m_
          have Hb10w33 : Hid (Blk w33 (wd.heap.size) #[.int .i64 0, .bool false] 23) := Hb10w32.out.more m_
          clear m_
          go_simp
          refine hK _ _ (HSm.out _ Hmw33.out) ?_; clear hK K
          refine ol_one 13 (by kernel_rfl) ?_
          · refine ol_step rfl (by kernel_rfl) (fun K hK => ?_); go_simp
            refine (c2 _).mono ?_
            rintro e w34 ⟨rfl, m_⟩
            have Hmw34 : Hid (More W w34) := Hmw33.out.trans m_
            have Hb9w34 : Hid (Blk w34 (w26.heap.size) #[.int .i64 0, .bool false] 23) := Hb9w33.out.more m_
            have Hb10w34 : Hid (Blk w34 (wd.heap.size) #[.int .i64 0, .bool false] 23) := Hb10w33.out.more m_
            clear m_
            go_simp
            refine hK _ _ (HSm.out _ Hmw34.out) ?_; clear hK K
            have F : Hid (WhB w s (w26.heap.size) (wd.heap.size) w34) := ⟨HB.out.1.more Hmw34.out, HB.out.2.1.more Hmw34.out, Hb9w34.out, Hb10w34.out, HB.out.2.2.1.trans Hmw34.out, Hl9.out, Hl10.out, Hne.out⟩
            refine ol_cast (listed' := #[true, true, true, true, true, true, true, true, true, true, true, true, true, true, true, true, false, false]) (by kernel_rfl) ?_
            exact key _ _ _ F
  · intro w1 g10 g9 F
    have t0 := F.out.b9.cell (j := 0) rfl
    have t1 := F.out.b9.cell (j := 1) rfl
    have u0 := F.out.b9.frozen 0
    have u1 := F.out.b9.frozen 1
    obtain ⟨w2, Hw2⟩ : ∃ w2 : World, Hid (w2 = (w1.setCell ⟨g9, 0, none⟩ (.int .i64 lab)).setCell ⟨g9, 1, none⟩ (.bool las)) := ⟨_, rfl⟩
    have h9 := F.out.lt9
    have h10 := F.out.lt10
    have hne9 := F.out.ne
    have F2 : Hid (Blk w2 w.heap.size (kv s) 104 ∧ Blk w2 (w.heap.size + 1) (kv zeroK) 104 ∧ Blk w2 g9 #[.int .i64 lab, .bool las] 23 ∧ Blk w2 g10 #[.int .i64 0, .bool false] 23 ∧ More w w2) := by
      rw [Hw2.out]
      exact ⟨(F.out.r.other (by omega) _ _).other (by omega) _ _, (F.out.z.other (by omega) _ _).other (by omega) _ _, (F.out.b9.set 0 _).set 1 _, (F.out.b10.other hne9 _ _).other hne9 _ _, (F.out.up.setCell (by dsimp only; omega) _).setCell (by dsimp only; omega) _⟩
    obtain ⟨w3, Hw3⟩ : ∃ w3 : World, Hid (w3 = (w2.setCell ⟨g10, 0, none⟩ (.int .i64 lbb)).setCell ⟨g10, 1, none⟩ (.bool lbs)) := ⟨_, rfl⟩
    have F3 : Hid (Blk w3 w.heap.size (kv s) 104 ∧ Blk w3 (w.heap.size + 1) (kv zeroK) 104 ∧ Blk w3 g9 #[.int .i64 lab, .bool las] 23 ∧ Blk w3 g10 #[.int .i64 lbb, .bool lbs] 23 ∧ More w w3) := by
      rw [Hw3.out]
      exact ⟨(F2.out.1.other (by omega) _ _).other (by omega) _ _, (F2.out.2.1.other (by omega) _ _).other (by omega) _ _, (F2.out.2.2.1.other hne9.symm _ _).other hne9.symm _ _, (F2.out.2.2.2.1.set 0 _).set 1 _, (F2.out.2.2.2.2.setCell (by dsimp only; omega) _).setCell (by dsimp only; omega) _⟩
    have Hlt : Hid (w.heap.size + 2 ≤ g9 ∧ w.heap.size + 2 ≤ g10 ∧ g9 ≠ g10) := ⟨h9, h10, hne9⟩
    clear h9 h10 hne9
    refine ol_one 16 (by kernel_rfl) ?_
    refine ol_step rfl (by kernel_rfl) (fun K hK => ?_); go_simp
    rw [← Hw2.out]
    refine hK _ _ ((HS.out _).2 F2.out.1) ?_; clear hK K t0 t1 u0 u1
    have t0 := F2.out.2.2.2.1.cell (j := 0) rfl
    have t1 := F2.out.2.2.2.1.cell (j := 1) rfl
    have u0 := F2.out.2.2.2.1.frozen 0
    have u1 := F2.out.2.2.2.1.frozen 1
    refine ol_one 17 (by kernel_rfl) ?_
    refine ol_step rfl (by kernel_rfl) (fun K hK => ?_); go_simp
    rw [← Hw3.out]
    refine hK _ _ ((HS.out _).2 F3.out.1) ?_; clear hK K t0 t1 u0 u1
    refine ol_done (by kernel_rfl) ?_
    have v0 := F3.out.2.2.1.cell (j := 0) rfl
    have v1 := F3.out.2.2.1.cell (j := 1) rfl
    have x0 := F3.out.2.2.2.1.cell (j := 0) rfl
    have x1 := F3.out.2.2.2.1.cell (j := 1) rfl
    clear hne HS0 c1 c2
    rcases Hc.out with hc | hc | hc | hc
    · subst hc
      have hend : whK 1 a b s = setK (setK s a ⟨lab, las⟩) b ⟨lbb, lbs⟩ := by rw [HK.out]; simp
      obtain ⟨w4, Hw4⟩ : ∃ w_ : World, Hid (w_ = (w3.setCell ⟨w.heap.size, a.toNat * 2, none⟩ (.int .i64 lab)).setCell ⟨w.heap.size, a.toNat * 2 + 1, none⟩ (.bool las)) := ⟨_, rfl⟩
      have F4 : Hid (Blk w4 w.heap.size (kv (setK (s) a ⟨lab, las⟩)) 104 ∧ Blk w4 (w.heap.size + 1) (kv zeroK) 104 ∧ More w w4 ∧ Blk w4 g10 #[.int .i64 lbb, .bool lbs] 23) := by
        have hl := Hlt.out
        rw [Hw4.out]
        exact ⟨(F3.out.1).setK a lab las ha8, ((F3.out.2.1).other (by omega) _ _).other (by omega) _ _, ((F3.out.2.2.2.2).setCell (by simp) _).setCell (by simp) _, ((F3.out.2.2.2.1).other (by omega) _ _).other (by omega) _ _⟩
      obtain ⟨w5, Hw5⟩ : ∃ w_ : World, Hid (w_ = (w4.setCell ⟨w.heap.size, b.toNat * 2, none⟩ (.int .i64 lbb)).setCell ⟨w.heap.size, b.toNat * 2 + 1, none⟩ (.bool lbs)) := ⟨_, rfl⟩
      have F5 : Hid (Blk w5 w.heap.size (kv (setK (setK s a ⟨lab, las⟩) b ⟨lbb, lbs⟩)) 104 ∧ Blk w5 (w.heap.size + 1) (kv zeroK) 104 ∧ More w w5 ∧ Blk w5 g10 #[.int .i64 lbb, .bool lbs] 23) := by
        have hl := Hlt.out
        rw [Hw5.out]
        exact ⟨(F4.out.1).setK b lbb lbs hb8, ((F4.out.2.1).other (by omega) _ _).other (by omega) _ _, ((F4.out.2.2.1).setCell (by simp) _).setCell (by simp) _, ((F4.out.2.2.2).other (by omega) _ _).other (by omega) _ _⟩
      have y0 := F4.out.2.2.2.cell (j := 0) rfl
      have y1 := F4.out.2.2.2.cell (j := 1) rfl
      obtain ⟨C, hC⟩ : ∃ C, kv (whK 1 a b s) = C := ⟨_, rfl⟩
      have HE : Hid (P (.returned (.agg C)) (w5.setRow (w.heap.size + 1) C)) := by
        have := HP.out (w5.setRow (w.heap.size + 1) C) (F5.out.2.2.1.setRow (by omega) C)
        rw [hC] at this
        exact this
      have hb : w5.heap[w.heap.size]? = some (.cells C 104 (0, 0)) := by
        have := F5.out.1
        rw [← hend, hC] at this
        exact this
      have hr : w5.heap[w.heap.size + 1]? = some (.cells (kv zeroK) 104 (0, 0)) := F5.out.2.1
      have hi : (Try.prog.info? 104).map (·.size) = some C.size := by rw [← hC]; exact info104k _
      have hold : (kv zeroK).size = C.size := by rw [← hC, kv_size, kv_size]
      have hone : C.all (·.oneCell') = true := by rw [← hC]; exact kv_one _
      clear hend HP
      go_wp2_with (first | (refine wpList_store_kn rfl (.tmp 33) (.tmp 32) rfl w.heap.size a.toNat lab las rfl rfl info23s (s) 104 F3.out.1 ha8 w4 Hw4.out ?_) | (refine wpList_store_kn rfl (.tmp 42) (.tmp 41) rfl w.heap.size b.toNat lbb lbs rfl rfl info23s (setK s a ⟨lab, las⟩) 104 F4.out.1 hb8 w5 Hw5.out ?_) | (refine wpList_load_row rfl 104 (.tmp 4) rfl w.heap.size rfl 104 _ (0, 0) _ hb Try.underlying104 rfl hi ?_) | (refine wpList_store_row rfl 104 (.tmp 8) (.tmp 43) rfl (w.heap.size + 1) _ rfl rfl 104 _ hr hi hold hone ?_))
      exact bodyPost_ret (results_cell_row rfl _ _ (w.heap.size + 1) 104 C (0, 0) _ rfl (setRow_heap _ _ _ _ _ _ hr) Try.underlying104 rfl hi) rfl HE.out
    · subst hc
      have hend : whK 2 a b s = s := by rw [HK.out]; simp
      obtain ⟨C, hC⟩ : ∃ C, kv (whK 2 a b s) = C := ⟨_, rfl⟩
      have HE : Hid (P (.returned (.agg C)) (w3.setRow (w.heap.size + 1) C)) := by
        have := HP.out (w3.setRow (w.heap.size + 1) C) (F3.out.2.2.2.2.setRow (by omega) C)
        rw [hC] at this
        exact this
      have hb : w3.heap[w.heap.size]? = some (.cells C 104 (0, 0)) := by
        have := F3.out.1
        rw [← hend, hC] at this
        exact this
      have hr : w3.heap[w.heap.size + 1]? = some (.cells (kv zeroK) 104 (0, 0)) := F3.out.2.1
      have hi : (Try.prog.info? 104).map (·.size) = some C.size := by rw [← hC]; exact info104k _
      have hold : (kv zeroK).size = C.size := by rw [← hC, kv_size, kv_size]
      have hone : C.all (·.oneCell') = true := by rw [← hC]; exact kv_one _
      clear hend HP
      go_wp2_with (first | (refine wpList_load_row rfl 104 (.tmp 4) rfl w.heap.size rfl 104 _ (0, 0) _ hb Try.underlying104 rfl hi ?_) | (refine wpList_store_row rfl 104 (.tmp 8) (.tmp 43) rfl (w.heap.size + 1) _ rfl rfl 104 _ hr hi hold hone ?_))
      exact bodyPost_ret (results_cell_row rfl _ _ (w.heap.size + 1) 104 C (0, 0) _ rfl (setRow_heap _ _ _ _ _ _ hr) Try.underlying104 rfl hi) rfl HE.out
    · subst hc
      have hend : whK 3 a b s = setK s a ⟨lab, las⟩ := by rw [HK.out]; simp
      obtain ⟨w4, Hw4⟩ : ∃ w_ : World, Hid (w_ = (w3.setCell ⟨w.heap.size, a.toNat * 2, none⟩ (.int .i64 lab)).setCell ⟨w.heap.size, a.toNat * 2 + 1, none⟩ (.bool las)) := ⟨_, rfl⟩
      have F4 : Hid (Blk w4 w.heap.size (kv (setK (s) a ⟨lab, las⟩)) 104 ∧ Blk w4 (w.heap.size + 1) (kv zeroK) 104 ∧ More w w4 ∧ Blk w4 g10 #[.int .i64 lbb, .bool lbs] 23) := by
        have hl := Hlt.out
        rw [Hw4.out]
        exact ⟨(F3.out.1).setK a lab las ha8, ((F3.out.2.1).other (by omega) _ _).other (by omega) _ _, ((F3.out.2.2.2.2).setCell (by simp) _).setCell (by simp) _, ((F3.out.2.2.2.1).other (by omega) _ _).other (by omega) _ _⟩
      obtain ⟨C, hC⟩ : ∃ C, kv (whK 3 a b s) = C := ⟨_, rfl⟩
      have HE : Hid (P (.returned (.agg C)) (w4.setRow (w.heap.size + 1) C)) := by
        have := HP.out (w4.setRow (w.heap.size + 1) C) (F4.out.2.2.1.setRow (by omega) C)
        rw [hC] at this
        exact this
      have hb : w4.heap[w.heap.size]? = some (.cells C 104 (0, 0)) := by
        have := F4.out.1
        rw [← hend, hC] at this
        exact this
      have hr : w4.heap[w.heap.size + 1]? = some (.cells (kv zeroK) 104 (0, 0)) := F4.out.2.1
      have hi : (Try.prog.info? 104).map (·.size) = some C.size := by rw [← hC]; exact info104k _
      have hold : (kv zeroK).size = C.size := by rw [← hC, kv_size, kv_size]
      have hone : C.all (·.oneCell') = true := by rw [← hC]; exact kv_one _
      clear hend HP
      go_wp2_with (first | (refine wpList_store_kn rfl (.tmp 33) (.tmp 32) rfl w.heap.size a.toNat lab las rfl rfl info23s (s) 104 F3.out.1 ha8 w4 Hw4.out ?_) | (refine wpList_load_row rfl 104 (.tmp 4) rfl w.heap.size rfl 104 _ (0, 0) _ hb Try.underlying104 rfl hi ?_) | (refine wpList_store_row rfl 104 (.tmp 8) (.tmp 43) rfl (w.heap.size + 1) _ rfl rfl 104 _ hr hi hold hone ?_))
      exact bodyPost_ret (results_cell_row rfl _ _ (w.heap.size + 1) 104 C (0, 0) _ rfl (setRow_heap _ _ _ _ _ _ hr) Try.underlying104 rfl hi) rfl HE.out
    · subst hc
      have hend : whK 4 a b s = setK s b ⟨lbb, lbs⟩ := by rw [HK.out]; simp
      obtain ⟨w4, Hw4⟩ : ∃ w_ : World, Hid (w_ = (w3.setCell ⟨w.heap.size, b.toNat * 2, none⟩ (.int .i64 lbb)).setCell ⟨w.heap.size, b.toNat * 2 + 1, none⟩ (.bool lbs)) := ⟨_, rfl⟩
      have F4 : Hid (Blk w4 w.heap.size (kv (setK (s) b ⟨lbb, lbs⟩)) 104 ∧ Blk w4 (w.heap.size + 1) (kv zeroK) 104 ∧ More w w4 ∧ Blk w4 g10 #[.int .i64 lbb, .bool lbs] 23) := by
        have hl := Hlt.out
        rw [Hw4.out]
        exact ⟨(F3.out.1).setK b lbb lbs hb8, ((F3.out.2.1).other (by omega) _ _).other (by omega) _ _, ((F3.out.2.2.2.2).setCell (by simp) _).setCell (by simp) _, ((F3.out.2.2.2.1).other (by omega) _ _).other (by omega) _ _⟩
      obtain ⟨C, hC⟩ : ∃ C, kv (whK 4 a b s) = C := ⟨_, rfl⟩
      have HE : Hid (P (.returned (.agg C)) (w4.setRow (w.heap.size + 1) C)) := by
        have := HP.out (w4.setRow (w.heap.size + 1) C) (F4.out.2.2.1.setRow (by omega) C)
        rw [hC] at this
        exact this
      have hb : w4.heap[w.heap.size]? = some (.cells C 104 (0, 0)) := by
        have := F4.out.1
        rw [← hend, hC] at this
        exact this
      have hr : w4.heap[w.heap.size + 1]? = some (.cells (kv zeroK) 104 (0, 0)) := F4.out.2.1
      have hi : (Try.prog.info? 104).map (·.size) = some C.size := by rw [← hC]; exact info104k _
      have hold : (kv zeroK).size = C.size := by rw [← hC, kv_size, kv_size]
      have hone : C.all (·.oneCell') = true := by rw [← hC]; exact kv_one _
      clear hend HP
      go_wp2_with (first | (refine wpList_store_kn rfl (.tmp 42) (.tmp 41) rfl w.heap.size b.toNat lbb lbs rfl rfl info23s (s) 104 F3.out.1 hb8 w4 Hw4.out ?_) | (refine wpList_load_row rfl 104 (.tmp 4) rfl w.heap.size rfl 104 _ (0, 0) _ hb Try.underlying104 rfl hi ?_) | (refine wpList_store_row rfl 104 (.tmp 8) (.tmp 43) rfl (w.heap.size + 1) _ rfl rfl 104 _ hr hi hold hone ?_))
      exact bodyPost_ret (results_cell_row rfl _ _ (w.heap.size + 1) 104 C (0, 0) _ rfl (setRow_heap _ _ _ _ _ _ hr) Try.underlying104 rfl hi) rfl HE.out

end Go.Proofs.Ytkeeimdhlbdigab
