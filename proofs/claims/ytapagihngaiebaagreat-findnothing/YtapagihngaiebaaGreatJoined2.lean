/-
  The texts CvWhere, CvBehind, CvLead, CvLearn, one behind the other, with what is used of them.
-/
import Derived.Test.YtapagihngaiebaaGreatJoined1
import Derived.WalkSmall
namespace Go.Proofs.YtapagihngaiebaaGreat
set_option maxHeartbeats 4000000
section
open Go.RowKit
set_option linter.unusedSimpArgs false
set_option linter.unusedVariables false
set_option maxRecDepth 8000
theorem Jc8 {G : Prop} {A : Prop} (h1 : A -> G) (h2 : A) : G := h1 h2

section
variable {P : Program} {ops : Array Oper} {Q : Exit -> Act -> World -> Prop} {S : World -> Prop}
theorem Jcr (i j k : Nat) {n : Nat} {listed : Array Bool} {a : Act} {w : World} (hB : (Region.ready .any ops listed == [i, j, k]) = true) (h : J64 P ops Q S i n listed a w) (h2 : J64 P ops Q S j n listed a w) (h3 : J64 P ops Q S k n listed a w) : OrdL P ops Q S (n + 1) listed a w := by
 refine ⟨wpAnyH_all (by simpa using hB) (by simp) (fun x hx => ?_)⟩;have hx' : x = i \/ x = j \/ x = k := by simpa using hx
 rcases hx' with rfl | rfl | rfl
 ·exact h.out
 ·exact h2.out
 ·exact h3.out
theorem J1p {n : Nat} {listed listed' : Array Bool} {a : Act} {w : World} (e : listed = listed') (h : OrdL P ops Q S n listed' a w) : OrdL P ops Q S n listed a w := e ▸ h

theorem J2d {rest : List Oper} {o : Oper} {a : Act} {w : World} (hgd : o.guard = none) (x y : Operand) (ho : o.op = .store 56 x y) (n j : Nat) (b : Int) (t : Bool) (hx : a.eval x = .pointer (some ⟨n, j * 2, none⟩)) (hy : a.eval y = .agg #[V b, .bool t])
  (hi : (P.info? 56).map (·.size) = some 2) (s : KS) (T : TypeId) (hb : Blk w n (kv s) T) (hj : j < 8)
  (w' : World) (hw : w' = (w.setCell ⟨n, j * 2, none⟩ (V b)).setCell ⟨n, j * 2 + 1, none⟩ (.bool t)) (h : wpList P ops Q rest (a.put o.dst undef) w') : wpList P ops Q (o :: rest) a w := by
 subst hw;refine J3c hgd 56 x y ho n (j * 2) #[V b, .bool t] hx hy hi (fun i hi => ?_) (by simp [Value.oneCell']) h;have hi' : i < 2 := by simpa using hi
 refine ⟨?_, hb.frozen _⟩;by_cases e : i = 0
 ·subst e; rw [Nat.add_zero, hb.cell (kv_at s j hj).1]; rfl
 ·obtain rfl : i = 1 := by omega
  rw [hb.cell (kv_at s j hj).2]; rfl
end
theorem J8k : (Tryz.prog.info? 56).map (·.size) = some 2 := by kernel_rfl

def whK (c a b : Int) (s : KS) : KS :=
 if c = 1 then setK (setK s a (Kn.less (s a.toNat) (s b.toNat))) b (Kn.less (s b.toNat) (s a.toNat)) else if c = 2 then s else if c = 3 then setK s a (Kn.less (s a.toNat) (s b.toNat)) else setK s b (Kn.less (s b.toNat) (s a.toNat))

structure WhB (w : World) (s : KS) (g9 g10 : Nat) (w' : World) : Prop where
 r : Blk w' w.heap.size (kv s) 117
 z : Blk w' (w.heap.size + 1) (kv zeroK) 117
 b9 : Blk w' g9 #[V 0, .bool false] 56
 b10 : Blk w' g10 #[V 0, .bool false] 56
 up : More w w'
 lt9 : w.heap.size + 2 <= g9
 lt10 : w.heap.size + 2 <= g10
 ne : g9 ≠ g10

theorem J7f (s : KS) (c a b : Int) (w : World) (hc : c = 1 \/ c = 2 \/ c = 3 \/ c = 4) (ha0 : 0 <= a) (ha1 : a < 8) (hb0 : 0 <= b) (hb1 : b < 8) :
  Calls Tryz.prog 74 #[.agg (kv s), V c, V a, V b] w fun e w' => e = .returned (.agg (kv (whK c a b s))) /\ More w w' := by
 suffices hP : ∀ P : Ending -> World -> Prop, (∀ w', More w w' -> P (.returned (.agg (kv (whK c a b s)))) w') -> Calls Tryz.prog 74 #[.agg (kv s), V c, V a, V b] w P from hP _ (fun w' m => ⟨rfl, m⟩)
 intro P hP0;have HP : Hid (∀ w', More w w' -> P (.returned (.agg (kv (whK c a b s)))) w') := hP0;clear hP0;have Hc : Hid (c = 1 \/ c = 2 \/ c = 3 \/ c = 4) := hc;clear hc;have ha8 : a.toNat < 8 := by omega
 have hb8 : b.toNat < 8 := by omega
 obtain ⟨W, HW⟩ : ∃ W : World, Hid (W = (w.alloc (.cells (kv s) 117)).alloc (.cells #[V 0, .bool false, V 0, .bool false, V 0, .bool false, V 0, .bool false, V 0, .bool false, V 0, .bool false, V 0, .bool false, V 0, .bool false] 117)) := ⟨_, rfl⟩
 have HB : Hid (Blk W w.heap.size (kv s) 117 /\ Blk W (w.heap.size + 1) (kv zeroK) 117 /\ More w W /\ W.heap.size = w.heap.size + 2) := by
  rw [HW.out];refine ⟨(Blk.last _ _ _).alloc _ _, ?_, ((More.refl _).alloc _ _).alloc _ _, by simp⟩;rw [J2z];exact (by simpa using Blk.last (w.alloc (.cells (kv s) 117)) #[V 0, .bool false, V 0, .bool false, V 0, .bool false, V 0, .bool false, V 0, .bool false, V 0, .bool false, V 0, .bool false, V 0, .bool false] 117)
 obtain ⟨S, HS⟩ : ∃ S : World -> Prop, Hid (∀ w', S w' ↔ Blk w' w.heap.size (kv s) 117) := ⟨_, fun _ => Iff.rfl⟩;have HSm : Hid (∀ w', More W w' -> S w') := fun w' m => (HS.out _).2 (HB.out.1.more m)
 obtain ⟨xa, hxa⟩ : ∃ x, s a.toNat = x := ⟨_, rfl⟩;obtain ⟨xb, hxb⟩ : ∃ x, s b.toNat = x := ⟨_, rfl⟩;have k1 : ∀ i : { w' // S w' }, i.val.cell? ⟨w.heap.size, a.toNat * 2, none⟩ = some (V xa.b) := fun i => by rw [((HS.out _).1 i.property).cell (kv_at _ _ ha8).1, hxa]
 have k2 : ∀ i : { w' // S w' }, i.val.cell? ⟨w.heap.size, a.toNat * 2 + 1, none⟩ = some (.bool xa.s) := fun i => by rw [((HS.out _).1 i.property).cell (kv_at _ _ ha8).2, hxa]
 have k3 : ∀ i : { w' // S w' }, i.val.cell? ⟨w.heap.size, b.toNat * 2, none⟩ = some (V xb.b) := fun i => by rw [((HS.out _).1 i.property).cell (kv_at _ _ hb8).1, hxb]
 have k4 : ∀ i : { w' // S w' }, i.val.cell? ⟨w.heap.size, b.toNat * 2 + 1, none⟩ = some (.bool xb.s) := fun i => by rw [((HS.out _).1 i.property).cell (kv_at _ _ hb8).2, hxb]
 obtain ⟨la, hla⟩ : ∃ v, Kn.less xa xb = v := ⟨_, rfl⟩;obtain ⟨lb, hlb⟩ : ∃ v, Kn.less xb xa = v := ⟨_, rfl⟩;have c1 : ∀ w : World, Calls Tryz.prog 96 #[kn xa.b xa.s, kn xb.b xb.s] w fun e w' => e = .returned (kn la.b la.s) /\ More w w' := fun w => hla ▸ J5c xa.b xb.b xa.s xb.s w
 have c2 : ∀ w : World, Calls Tryz.prog 96 #[kn xb.b xb.s, kn xa.b xa.s] w fun e w' => e = .returned (kn lb.b lb.s) /\ More w w' := fun w => hlb ▸ J5c xb.b xa.b xb.s xa.s w
 have HK : Hid (whK c a b s = if c = 1 then setK (setK s a la) b lb else if c = 2 then s else if c = 3 then setK s a la else setK s b lb) := by
  show _ = _;unfold whK;rw [hxa, hxb, hla, hlb]
 clear hxa hxb hla hlb;obtain ⟨xab, xas⟩ := xa;obtain ⟨xbb, xbs⟩ := xb;obtain ⟨lab, las⟩ := la;obtain ⟨lbb, lbs⟩ := lb;unfold kn at c1 c2;dsimp only at k1 k2 k3 k4 c1 c2;obtain ⟨cs, hcs⟩ : ∃ c, kv s = c := ⟨_, rfl⟩;have hcs16 : cs.size = 16 := hcs ▸ J0e s;have Hcs : Hid (kv s = cs) := hcs;rw [hcs] at HW;rw [hcs];clear hcs;have HS0 : S W.drew := HSm.out _ (More.refl _).drew;have hne : Nonempty { w' // S w' } := ⟨⟨_, HS0⟩⟩;go_enter Tryz.func74, Tryz.ntmps74;go_wp2_with (fail)
 rw [<- HW.out];clear hcs16;refine J1m (S := S) (by kernel_rfl) HS0 ?_;refine J08 0 rfl (by kernel_rfl) HS0 (by kernel_rfl) (fun K hK => ?_); go_simp; refine hK _ _ ?_; clear hK K;refine J08 1 rfl (by kernel_rfl) HS0 (by kernel_rfl) (fun K hK => ?_); go_simp; refine hK _ _ ?_; clear hK K;refine J08 2 rfl (by kernel_rfl) HS0 (by kernel_rfl) (fun K hK => ?_); go_simp; refine hK _ _ ?_; clear hK K;refine J08 3 rfl (by kernel_rfl) HS0 (by kernel_rfl) (fun K hK => ?_); go_simp; refine hK _ _ ?_; clear hK K;refine J08 4 rfl (by kernel_rfl) HS0 (by kernel_rfl) (fun K hK => ?_); go_simp; refine hK _ _ ?_; clear hK K;refine J08 5 rfl (by kernel_rfl) HS0 (by kernel_rfl) (fun K hK => ?_); go_simp; refine hK _ _ ?_; clear hK K;refine J08 7 rfl (by kernel_rfl) HS0 (by kernel_rfl) (fun K hK => ?_); go_simp; refine hK _ _ ?_; clear hK K;refine J08 8 rfl (by kernel_rfl) HS0 (by kernel_rfl) (fun K hK => ?_); go_simp; refine hK _ _ ?_; clear hK K;refine J08 9 rfl (by kernel_rfl) HS0 (by kernel_rfl) (fun K hK => ?_); go_simp; refine hK _ _ ?_; clear hK K;refine J08 10 rfl (by kernel_rfl) HS0 (by kernel_rfl) (fun K hK => ?_); go_simp; refine hK _ _ ?_; clear hK K;refine J08 11 rfl (by kernel_rfl) HS0 (by kernel_rfl) (fun K hK => ?_); go_simp; refine hK _ _ ?_; clear hK K;refine J08 12 rfl (by kernel_rfl) HS0 (by kernel_rfl) (fun K hK => ?_); go_simp; refine hK _ _ ?_; clear hK K;obtain ⟨wd, Hwd⟩ : ∃ wd : World, Hid (wd = W.drew) := ⟨_, rfl⟩
 have Hm_ : Hid (More W wd) := Hwd.out ▸ (More.refl W).drew
 have Hsz : Hid (w.heap.size + 2 <= wd.heap.size) := by
  have h1 := HB.out.2.2.2;have h2 := Hm_.out.size;show _ <= _;omega
 rw [<- Hwd.out];clear k1 k2 k3 k4;apply Jc8
 ·intro key
  refine Jcr 6 14 15 (by kernel_rfl) ?_ ?_ ?_
  ·refine J0a rfl (by kernel_rfl) (fun K hK => ?_); go_simp
   refine (c1 _).mono ?_;rintro e w1 ⟨rfl, m_⟩;have Hmw1 : Hid (More W w1) := Hm_.out.trans m_;clear m_
   go_simp
   refine hK _ _ (HSm.out _ Hmw1.out) ?_; clear hK K;refine Jcr 13 14 15 (by kernel_rfl) ?_ ?_ ?_
   ·refine J0a rfl (by kernel_rfl) (fun K hK => ?_); go_simp
    refine (c2 _).mono ?_;rintro e w2 ⟨rfl, m_⟩;have Hmw2 : Hid (More W w2) := Hmw1.out.trans m_;clear m_
    go_simp
    refine hK _ _ (HSm.out _ Hmw2.out) ?_; clear hK K;refine J3o 14 15 (by kernel_rfl) ?_ ?_
    ·refine J0a rfl (by kernel_rfl) (fun K hK => ?_); go_simp
     obtain ⟨w3, Hw_⟩ : ∃ w_ : World, Hid (w_ = w2.alloc (.cells #[V 0, .bool false] 56)) := ⟨_, rfl⟩;have m_ : More w2 w3 := Hw_.out ▸ (More.refl _).alloc _ _;have Hmw3 : Hid (More W w3) := Hmw2.out.trans m_;have Hb9w3 : Hid (Blk w3 w2.heap.size #[V 0, .bool false] 56) := Hw_.out ▸ Blk.last _ _ _;have Hl9 : Hid (w.heap.size + 2 <= w2.heap.size) := Nat.le_trans Hsz.out (by have h1 := Hmw2.out.size; have h2 := HB.out.2.2.2; have h3 := Hm_.out.size; have h4 := Hwd.out; rw [h4]; simpa using h1);rw [<- Hw_.out];clear m_ Hw_;refine hK _ _ (HSm.out _ Hmw3.out) ?_; clear hK K;refine J0x 15 (by kernel_rfl) ?_
     ·refine J0a rfl (by kernel_rfl) (fun K hK => ?_); go_simp
      obtain ⟨w4, Hw_⟩ : ∃ w_ : World, Hid (w_ = w3.alloc (.cells #[V 0, .bool false] 56)) := ⟨_, rfl⟩;have m_ : More w3 w4 := Hw_.out ▸ (More.refl _).alloc _ _;have Hmw4 : Hid (More W w4) := Hmw3.out.trans m_;have Hb10w4 : Hid (Blk w4 w3.heap.size #[V 0, .bool false] 56) := Hw_.out ▸ Blk.last _ _ _;have Hl10 : Hid (w.heap.size + 2 <= w3.heap.size) := Nat.le_trans Hsz.out (by have h1 := Hmw3.out.size; have h2 := HB.out.2.2.2; have h3 := Hm_.out.size; have h4 := Hwd.out; rw [h4]; simpa using h1);have Hb9w4 : Hid (Blk w4 (w2.heap.size) #[V 0, .bool false] 56) := Hb9w3.out.more m_;have Hne : Hid (w2.heap.size ≠ w3.heap.size) := Nat.ne_of_lt Hb9w3.out.lt;rw [<- Hw_.out];clear m_ Hw_;refine hK _ _ (HSm.out _ Hmw4.out) ?_; clear hK K;have F : Hid (WhB w s (w2.heap.size) (w3.heap.size) w4) := ⟨HB.out.1.more Hmw4.out, HB.out.2.1.more Hmw4.out, Hb9w4.out, Hb10w4.out, HB.out.2.2.1.trans Hmw4.out, Hl9.out, Hl10.out, Hne.out⟩;refine J1p (listed' := #[true, true, true, true, true, true, true, true, true, true, true, true, true, true, true, true, false, false]) (by kernel_rfl) ?_;clear Hl9 Hl10 Hne Hb9w4 Hb10w4;generalize w3.heap.size = g10 at F |-;generalize w2.heap.size = g9 at F |-;clear Hmw4
      revert w4 g10 g9
      exact key
    ·refine J0a rfl (by kernel_rfl) (fun K hK => ?_); go_simp
     obtain ⟨w5, Hw_⟩ : ∃ w_ : World, Hid (w_ = w2.alloc (.cells #[V 0, .bool false] 56)) := ⟨_, rfl⟩;have m_ : More w2 w5 := Hw_.out ▸ (More.refl _).alloc _ _;have Hmw5 : Hid (More W w5) := Hmw2.out.trans m_;have Hb10w5 : Hid (Blk w5 w2.heap.size #[V 0, .bool false] 56) := Hw_.out ▸ Blk.last _ _ _;have Hl10 : Hid (w.heap.size + 2 <= w2.heap.size) := Nat.le_trans Hsz.out (by have h1 := Hmw2.out.size; have h2 := HB.out.2.2.2; have h3 := Hm_.out.size; have h4 := Hwd.out; rw [h4]; simpa using h1);rw [<- Hw_.out];clear m_ Hw_;refine hK _ _ (HSm.out _ Hmw5.out) ?_; clear hK K;refine J0x 14 (by kernel_rfl) ?_
     ·refine J0a rfl (by kernel_rfl) (fun K hK => ?_); go_simp
      obtain ⟨w6, Hw_⟩ : ∃ w_ : World, Hid (w_ = w5.alloc (.cells #[V 0, .bool false] 56)) := ⟨_, rfl⟩;have m_ : More w5 w6 := Hw_.out ▸ (More.refl _).alloc _ _;have Hmw6 : Hid (More W w6) := Hmw5.out.trans m_;have Hb9w6 : Hid (Blk w6 w5.heap.size #[V 0, .bool false] 56) := Hw_.out ▸ Blk.last _ _ _;have Hl9 : Hid (w.heap.size + 2 <= w5.heap.size) := Nat.le_trans Hsz.out (by have h1 := Hmw5.out.size; have h2 := HB.out.2.2.2; have h3 := Hm_.out.size; have h4 := Hwd.out; rw [h4]; simpa using h1);have Hb10w6 : Hid (Blk w6 (w2.heap.size) #[V 0, .bool false] 56) := Hb10w5.out.more m_;have Hne : Hid (w5.heap.size ≠ w2.heap.size) := Nat.ne_of_gt Hb10w5.out.lt;rw [<- Hw_.out];clear m_ Hw_;refine hK _ _ (HSm.out _ Hmw6.out) ?_; clear hK K;have F : Hid (WhB w s (w5.heap.size) (w2.heap.size) w6) := ⟨HB.out.1.more Hmw6.out, HB.out.2.1.more Hmw6.out, Hb9w6.out, Hb10w6.out, HB.out.2.2.1.trans Hmw6.out, Hl9.out, Hl10.out, Hne.out⟩;refine J1p (listed' := #[true, true, true, true, true, true, true, true, true, true, true, true, true, true, true, true, false, false]) (by kernel_rfl) ?_;exact key _ _ _ F
   ·refine J0a rfl (by kernel_rfl) (fun K hK => ?_); go_simp
    obtain ⟨w7, Hw_⟩ : ∃ w_ : World, Hid (w_ = w1.alloc (.cells #[V 0, .bool false] 56)) := ⟨_, rfl⟩;have m_ : More w1 w7 := Hw_.out ▸ (More.refl _).alloc _ _;have Hmw7 : Hid (More W w7) := Hmw1.out.trans m_;have Hb9w7 : Hid (Blk w7 w1.heap.size #[V 0, .bool false] 56) := Hw_.out ▸ Blk.last _ _ _;have Hl9 : Hid (w.heap.size + 2 <= w1.heap.size) := Nat.le_trans Hsz.out (by have h1 := Hmw1.out.size; have h2 := HB.out.2.2.2; have h3 := Hm_.out.size; have h4 := Hwd.out; rw [h4]; simpa using h1);rw [<- Hw_.out];clear m_ Hw_;refine hK _ _ (HSm.out _ Hmw7.out) ?_; clear hK K;refine J3o 13 15 (by kernel_rfl) ?_ ?_
    ·refine J0a rfl (by kernel_rfl) (fun K hK => ?_); go_simp
     refine (c2 _).mono ?_;rintro e w8 ⟨rfl, m_⟩;have Hmw8 : Hid (More W w8) := Hmw7.out.trans m_;have Hb9w8 : Hid (Blk w8 (w1.heap.size) #[V 0, .bool false] 56) := Hb9w7.out.more m_;clear m_
     go_simp
     refine hK _ _ (HSm.out _ Hmw8.out) ?_; clear hK K;refine J0x 15 (by kernel_rfl) ?_
     ·refine J0a rfl (by kernel_rfl) (fun K hK => ?_); go_simp
      obtain ⟨w9, Hw_⟩ : ∃ w_ : World, Hid (w_ = w8.alloc (.cells #[V 0, .bool false] 56)) := ⟨_, rfl⟩;have m_ : More w8 w9 := Hw_.out ▸ (More.refl _).alloc _ _;have Hmw9 : Hid (More W w9) := Hmw8.out.trans m_;have Hb10w9 : Hid (Blk w9 w8.heap.size #[V 0, .bool false] 56) := Hw_.out ▸ Blk.last _ _ _;have Hl10 : Hid (w.heap.size + 2 <= w8.heap.size) := Nat.le_trans Hsz.out (by have h1 := Hmw8.out.size; have h2 := HB.out.2.2.2; have h3 := Hm_.out.size; have h4 := Hwd.out; rw [h4]; simpa using h1);have Hb9w9 : Hid (Blk w9 (w1.heap.size) #[V 0, .bool false] 56) := Hb9w8.out.more m_;have Hne : Hid (w1.heap.size ≠ w8.heap.size) := Nat.ne_of_lt Hb9w8.out.lt;rw [<- Hw_.out];clear m_ Hw_;refine hK _ _ (HSm.out _ Hmw9.out) ?_; clear hK K;have F : Hid (WhB w s (w1.heap.size) (w8.heap.size) w9) := ⟨HB.out.1.more Hmw9.out, HB.out.2.1.more Hmw9.out, Hb9w9.out, Hb10w9.out, HB.out.2.2.1.trans Hmw9.out, Hl9.out, Hl10.out, Hne.out⟩;refine J1p (listed' := #[true, true, true, true, true, true, true, true, true, true, true, true, true, true, true, true, false, false]) (by kernel_rfl) ?_;exact key _ _ _ F
    ·refine J0a rfl (by kernel_rfl) (fun K hK => ?_); go_simp
     obtain ⟨w10, Hw_⟩ : ∃ w_ : World, Hid (w_ = w7.alloc (.cells #[V 0, .bool false] 56)) := ⟨_, rfl⟩;have m_ : More w7 w10 := Hw_.out ▸ (More.refl _).alloc _ _;have Hmw10 : Hid (More W w10) := Hmw7.out.trans m_;have Hb10w10 : Hid (Blk w10 w7.heap.size #[V 0, .bool false] 56) := Hw_.out ▸ Blk.last _ _ _;have Hl10 : Hid (w.heap.size + 2 <= w7.heap.size) := Nat.le_trans Hsz.out (by have h1 := Hmw7.out.size; have h2 := HB.out.2.2.2; have h3 := Hm_.out.size; have h4 := Hwd.out; rw [h4]; simpa using h1);have Hb9w10 : Hid (Blk w10 (w1.heap.size) #[V 0, .bool false] 56) := Hb9w7.out.more m_;have Hne : Hid (w1.heap.size ≠ w7.heap.size) := Nat.ne_of_lt Hb9w7.out.lt;rw [<- Hw_.out];clear m_ Hw_;refine hK _ _ (HSm.out _ Hmw10.out) ?_; clear hK K;refine J0x 13 (by kernel_rfl) ?_
     ·refine J0a rfl (by kernel_rfl) (fun K hK => ?_); go_simp
      refine (c2 _).mono ?_;rintro e w11 ⟨rfl, m_⟩;have Hmw11 : Hid (More W w11) := Hmw10.out.trans m_;have Hb9w11 : Hid (Blk w11 (w1.heap.size) #[V 0, .bool false] 56) := Hb9w10.out.more m_;have Hb10w11 : Hid (Blk w11 (w7.heap.size) #[V 0, .bool false] 56) := Hb10w10.out.more m_;clear m_
      go_simp
      refine hK _ _ (HSm.out _ Hmw11.out) ?_; clear hK K;have F : Hid (WhB w s (w1.heap.size) (w7.heap.size) w11) := ⟨HB.out.1.more Hmw11.out, HB.out.2.1.more Hmw11.out, Hb9w11.out, Hb10w11.out, HB.out.2.2.1.trans Hmw11.out, Hl9.out, Hl10.out, Hne.out⟩;refine J1p (listed' := #[true, true, true, true, true, true, true, true, true, true, true, true, true, true, true, true, false, false]) (by kernel_rfl) ?_;exact key _ _ _ F
   ·refine J0a rfl (by kernel_rfl) (fun K hK => ?_); go_simp
    obtain ⟨w12, Hw_⟩ : ∃ w_ : World, Hid (w_ = w1.alloc (.cells #[V 0, .bool false] 56)) := ⟨_, rfl⟩;have m_ : More w1 w12 := Hw_.out ▸ (More.refl _).alloc _ _;have Hmw12 : Hid (More W w12) := Hmw1.out.trans m_;have Hb10w12 : Hid (Blk w12 w1.heap.size #[V 0, .bool false] 56) := Hw_.out ▸ Blk.last _ _ _;have Hl10 : Hid (w.heap.size + 2 <= w1.heap.size) := Nat.le_trans Hsz.out (by have h1 := Hmw1.out.size; have h2 := HB.out.2.2.2; have h3 := Hm_.out.size; have h4 := Hwd.out; rw [h4]; simpa using h1);rw [<- Hw_.out];clear m_ Hw_;refine hK _ _ (HSm.out _ Hmw12.out) ?_; clear hK K;refine J3o 13 14 (by kernel_rfl) ?_ ?_
    ·refine J0a rfl (by kernel_rfl) (fun K hK => ?_); go_simp
     refine (c2 _).mono ?_;rintro e w13 ⟨rfl, m_⟩;have Hmw13 : Hid (More W w13) := Hmw12.out.trans m_;have Hb10w13 : Hid (Blk w13 (w1.heap.size) #[V 0, .bool false] 56) := Hb10w12.out.more m_;clear m_
     go_simp
     refine hK _ _ (HSm.out _ Hmw13.out) ?_; clear hK K;refine J0x 14 (by kernel_rfl) ?_
     ·refine J0a rfl (by kernel_rfl) (fun K hK => ?_); go_simp
      obtain ⟨w14, Hw_⟩ : ∃ w_ : World, Hid (w_ = w13.alloc (.cells #[V 0, .bool false] 56)) := ⟨_, rfl⟩;have m_ : More w13 w14 := Hw_.out ▸ (More.refl _).alloc _ _;have Hmw14 : Hid (More W w14) := Hmw13.out.trans m_;have Hb9w14 : Hid (Blk w14 w13.heap.size #[V 0, .bool false] 56) := Hw_.out ▸ Blk.last _ _ _;have Hl9 : Hid (w.heap.size + 2 <= w13.heap.size) := Nat.le_trans Hsz.out (by have h1 := Hmw13.out.size; have h2 := HB.out.2.2.2; have h3 := Hm_.out.size; have h4 := Hwd.out; rw [h4]; simpa using h1);have Hb10w14 : Hid (Blk w14 (w1.heap.size) #[V 0, .bool false] 56) := Hb10w13.out.more m_;have Hne : Hid (w13.heap.size ≠ w1.heap.size) := Nat.ne_of_gt Hb10w13.out.lt;rw [<- Hw_.out];clear m_ Hw_;refine hK _ _ (HSm.out _ Hmw14.out) ?_; clear hK K;have F : Hid (WhB w s (w13.heap.size) (w1.heap.size) w14) := ⟨HB.out.1.more Hmw14.out, HB.out.2.1.more Hmw14.out, Hb9w14.out, Hb10w14.out, HB.out.2.2.1.trans Hmw14.out, Hl9.out, Hl10.out, Hne.out⟩;refine J1p (listed' := #[true, true, true, true, true, true, true, true, true, true, true, true, true, true, true, true, false, false]) (by kernel_rfl) ?_;exact key _ _ _ F
    ·refine J0a rfl (by kernel_rfl) (fun K hK => ?_); go_simp
     obtain ⟨w15, Hw_⟩ : ∃ w_ : World, Hid (w_ = w12.alloc (.cells #[V 0, .bool false] 56)) := ⟨_, rfl⟩;have m_ : More w12 w15 := Hw_.out ▸ (More.refl _).alloc _ _;have Hmw15 : Hid (More W w15) := Hmw12.out.trans m_;have Hb9w15 : Hid (Blk w15 w12.heap.size #[V 0, .bool false] 56) := Hw_.out ▸ Blk.last _ _ _;have Hl9 : Hid (w.heap.size + 2 <= w12.heap.size) := Nat.le_trans Hsz.out (by have h1 := Hmw12.out.size; have h2 := HB.out.2.2.2; have h3 := Hm_.out.size; have h4 := Hwd.out; rw [h4]; simpa using h1);have Hb10w15 : Hid (Blk w15 (w1.heap.size) #[V 0, .bool false] 56) := Hb10w12.out.more m_;have Hne : Hid (w12.heap.size ≠ w1.heap.size) := Nat.ne_of_gt Hb10w12.out.lt;rw [<- Hw_.out];clear m_ Hw_;refine hK _ _ (HSm.out _ Hmw15.out) ?_; clear hK K;refine J0x 13 (by kernel_rfl) ?_
     ·refine J0a rfl (by kernel_rfl) (fun K hK => ?_); go_simp
      refine (c2 _).mono ?_;rintro e w16 ⟨rfl, m_⟩;have Hmw16 : Hid (More W w16) := Hmw15.out.trans m_;have Hb9w16 : Hid (Blk w16 (w12.heap.size) #[V 0, .bool false] 56) := Hb9w15.out.more m_;have Hb10w16 : Hid (Blk w16 (w1.heap.size) #[V 0, .bool false] 56) := Hb10w15.out.more m_;clear m_
      go_simp
      refine hK _ _ (HSm.out _ Hmw16.out) ?_; clear hK K;have F : Hid (WhB w s (w12.heap.size) (w1.heap.size) w16) := ⟨HB.out.1.more Hmw16.out, HB.out.2.1.more Hmw16.out, Hb9w16.out, Hb10w16.out, HB.out.2.2.1.trans Hmw16.out, Hl9.out, Hl10.out, Hne.out⟩;refine J1p (listed' := #[true, true, true, true, true, true, true, true, true, true, true, true, true, true, true, true, false, false]) (by kernel_rfl) ?_;exact key _ _ _ F
  ·refine J0a rfl (by kernel_rfl) (fun K hK => ?_); go_simp
   obtain ⟨w17, Hw_⟩ : ∃ w_ : World, Hid (w_ = wd.alloc (.cells #[V 0, .bool false] 56)) := ⟨_, rfl⟩;have m_ : More wd w17 := Hw_.out ▸ (More.refl _).alloc _ _;have Hmw17 : Hid (More W w17) := Hm_.out.trans m_;have Hb9w17 : Hid (Blk w17 wd.heap.size #[V 0, .bool false] 56) := Hw_.out ▸ Blk.last _ _ _;have Hl9 : Hid (w.heap.size + 2 <= wd.heap.size) := Nat.le_trans Hsz.out (Nat.le_refl _);rw [<- Hw_.out];clear m_ Hw_;refine hK _ _ (HSm.out _ Hmw17.out) ?_; clear hK K;refine J3o 6 15 (by kernel_rfl) ?_ ?_
   ·refine J0a rfl (by kernel_rfl) (fun K hK => ?_); go_simp
    refine (c1 _).mono ?_;rintro e w18 ⟨rfl, m_⟩;have Hmw18 : Hid (More W w18) := Hmw17.out.trans m_;have Hb9w18 : Hid (Blk w18 (wd.heap.size) #[V 0, .bool false] 56) := Hb9w17.out.more m_;clear m_
    go_simp
    refine hK _ _ (HSm.out _ Hmw18.out) ?_; clear hK K;refine J3o 13 15 (by kernel_rfl) ?_ ?_
    ·refine J0a rfl (by kernel_rfl) (fun K hK => ?_); go_simp
     refine (c2 _).mono ?_;rintro e w19 ⟨rfl, m_⟩;have Hmw19 : Hid (More W w19) := Hmw18.out.trans m_;have Hb9w19 : Hid (Blk w19 (wd.heap.size) #[V 0, .bool false] 56) := Hb9w18.out.more m_;clear m_
     go_simp
     refine hK _ _ (HSm.out _ Hmw19.out) ?_; clear hK K;refine J0x 15 (by kernel_rfl) ?_
     ·refine J0a rfl (by kernel_rfl) (fun K hK => ?_); go_simp
      obtain ⟨w20, Hw_⟩ : ∃ w_ : World, Hid (w_ = w19.alloc (.cells #[V 0, .bool false] 56)) := ⟨_, rfl⟩;have m_ : More w19 w20 := Hw_.out ▸ (More.refl _).alloc _ _;have Hmw20 : Hid (More W w20) := Hmw19.out.trans m_;have Hb10w20 : Hid (Blk w20 w19.heap.size #[V 0, .bool false] 56) := Hw_.out ▸ Blk.last _ _ _;have Hl10 : Hid (w.heap.size + 2 <= w19.heap.size) := Nat.le_trans Hsz.out (by have h1 := Hmw19.out.size; have h2 := HB.out.2.2.2; have h3 := Hm_.out.size; have h4 := Hwd.out; rw [h4]; simpa using h1);have Hb9w20 : Hid (Blk w20 (wd.heap.size) #[V 0, .bool false] 56) := Hb9w19.out.more m_;have Hne : Hid (wd.heap.size ≠ w19.heap.size) := Nat.ne_of_lt Hb9w19.out.lt;rw [<- Hw_.out];clear m_ Hw_;refine hK _ _ (HSm.out _ Hmw20.out) ?_; clear hK K;have F : Hid (WhB w s (wd.heap.size) (w19.heap.size) w20) := ⟨HB.out.1.more Hmw20.out, HB.out.2.1.more Hmw20.out, Hb9w20.out, Hb10w20.out, HB.out.2.2.1.trans Hmw20.out, Hl9.out, Hl10.out, Hne.out⟩;refine J1p (listed' := #[true, true, true, true, true, true, true, true, true, true, true, true, true, true, true, true, false, false]) (by kernel_rfl) ?_;exact key _ _ _ F
    ·refine J0a rfl (by kernel_rfl) (fun K hK => ?_); go_simp
     obtain ⟨w21, Hw_⟩ : ∃ w_ : World, Hid (w_ = w18.alloc (.cells #[V 0, .bool false] 56)) := ⟨_, rfl⟩;have m_ : More w18 w21 := Hw_.out ▸ (More.refl _).alloc _ _;have Hmw21 : Hid (More W w21) := Hmw18.out.trans m_;have Hb10w21 : Hid (Blk w21 w18.heap.size #[V 0, .bool false] 56) := Hw_.out ▸ Blk.last _ _ _;have Hl10 : Hid (w.heap.size + 2 <= w18.heap.size) := Nat.le_trans Hsz.out (by have h1 := Hmw18.out.size; have h2 := HB.out.2.2.2; have h3 := Hm_.out.size; have h4 := Hwd.out; rw [h4]; simpa using h1);have Hb9w21 : Hid (Blk w21 (wd.heap.size) #[V 0, .bool false] 56) := Hb9w18.out.more m_;have Hne : Hid (wd.heap.size ≠ w18.heap.size) := Nat.ne_of_lt Hb9w18.out.lt;rw [<- Hw_.out];clear m_ Hw_;refine hK _ _ (HSm.out _ Hmw21.out) ?_; clear hK K;refine J0x 13 (by kernel_rfl) ?_
     ·refine J0a rfl (by kernel_rfl) (fun K hK => ?_); go_simp
      refine (c2 _).mono ?_;rintro e w22 ⟨rfl, m_⟩;have Hmw22 : Hid (More W w22) := Hmw21.out.trans m_;have Hb9w22 : Hid (Blk w22 (wd.heap.size) #[V 0, .bool false] 56) := Hb9w21.out.more m_;have Hb10w22 : Hid (Blk w22 (w18.heap.size) #[V 0, .bool false] 56) := Hb10w21.out.more m_;clear m_
      go_simp
      refine hK _ _ (HSm.out _ Hmw22.out) ?_; clear hK K;have F : Hid (WhB w s (wd.heap.size) (w18.heap.size) w22) := ⟨HB.out.1.more Hmw22.out, HB.out.2.1.more Hmw22.out, Hb9w22.out, Hb10w22.out, HB.out.2.2.1.trans Hmw22.out, Hl9.out, Hl10.out, Hne.out⟩;refine J1p (listed' := #[true, true, true, true, true, true, true, true, true, true, true, true, true, true, true, true, false, false]) (by kernel_rfl) ?_;exact key _ _ _ F
   ·refine J0a rfl (by kernel_rfl) (fun K hK => ?_); go_simp
    obtain ⟨w23, Hw_⟩ : ∃ w_ : World, Hid (w_ = w17.alloc (.cells #[V 0, .bool false] 56)) := ⟨_, rfl⟩;have m_ : More w17 w23 := Hw_.out ▸ (More.refl _).alloc _ _;have Hmw23 : Hid (More W w23) := Hmw17.out.trans m_;have Hb10w23 : Hid (Blk w23 w17.heap.size #[V 0, .bool false] 56) := Hw_.out ▸ Blk.last _ _ _;have Hl10 : Hid (w.heap.size + 2 <= w17.heap.size) := Nat.le_trans Hsz.out (by have h1 := Hmw17.out.size; have h2 := HB.out.2.2.2; have h3 := Hm_.out.size; have h4 := Hwd.out; rw [h4]; simpa using h1);have Hb9w23 : Hid (Blk w23 (wd.heap.size) #[V 0, .bool false] 56) := Hb9w17.out.more m_;have Hne : Hid (wd.heap.size ≠ w17.heap.size) := Nat.ne_of_lt Hb9w17.out.lt;rw [<- Hw_.out];clear m_ Hw_;refine hK _ _ (HSm.out _ Hmw23.out) ?_; clear hK K;refine J0x 6 (by kernel_rfl) ?_
    ·refine J0a rfl (by kernel_rfl) (fun K hK => ?_); go_simp
     refine (c1 _).mono ?_;rintro e w24 ⟨rfl, m_⟩;have Hmw24 : Hid (More W w24) := Hmw23.out.trans m_;have Hb9w24 : Hid (Blk w24 (wd.heap.size) #[V 0, .bool false] 56) := Hb9w23.out.more m_;have Hb10w24 : Hid (Blk w24 (w17.heap.size) #[V 0, .bool false] 56) := Hb10w23.out.more m_;clear m_
     go_simp
     refine hK _ _ (HSm.out _ Hmw24.out) ?_; clear hK K;refine J0x 13 (by kernel_rfl) ?_
     ·refine J0a rfl (by kernel_rfl) (fun K hK => ?_); go_simp
      refine (c2 _).mono ?_;rintro e w25 ⟨rfl, m_⟩;have Hmw25 : Hid (More W w25) := Hmw24.out.trans m_;have Hb9w25 : Hid (Blk w25 (wd.heap.size) #[V 0, .bool false] 56) := Hb9w24.out.more m_;have Hb10w25 : Hid (Blk w25 (w17.heap.size) #[V 0, .bool false] 56) := Hb10w24.out.more m_;clear m_
      go_simp
      refine hK _ _ (HSm.out _ Hmw25.out) ?_; clear hK K;have F : Hid (WhB w s (wd.heap.size) (w17.heap.size) w25) := ⟨HB.out.1.more Hmw25.out, HB.out.2.1.more Hmw25.out, Hb9w25.out, Hb10w25.out, HB.out.2.2.1.trans Hmw25.out, Hl9.out, Hl10.out, Hne.out⟩;refine J1p (listed' := #[true, true, true, true, true, true, true, true, true, true, true, true, true, true, true, true, false, false]) (by kernel_rfl) ?_;exact key _ _ _ F
  ·refine J0a rfl (by kernel_rfl) (fun K hK => ?_); go_simp
   obtain ⟨w26, Hw_⟩ : ∃ w_ : World, Hid (w_ = wd.alloc (.cells #[V 0, .bool false] 56)) := ⟨_, rfl⟩;have m_ : More wd w26 := Hw_.out ▸ (More.refl _).alloc _ _;have Hmw26 : Hid (More W w26) := Hm_.out.trans m_;have Hb10w26 : Hid (Blk w26 wd.heap.size #[V 0, .bool false] 56) := Hw_.out ▸ Blk.last _ _ _;have Hl10 : Hid (w.heap.size + 2 <= wd.heap.size) := Nat.le_trans Hsz.out (Nat.le_refl _);rw [<- Hw_.out];clear m_ Hw_;refine hK _ _ (HSm.out _ Hmw26.out) ?_; clear hK K;refine J3o 6 14 (by kernel_rfl) ?_ ?_
   ·refine J0a rfl (by kernel_rfl) (fun K hK => ?_); go_simp
    refine (c1 _).mono ?_;rintro e w27 ⟨rfl, m_⟩;have Hmw27 : Hid (More W w27) := Hmw26.out.trans m_;have Hb10w27 : Hid (Blk w27 (wd.heap.size) #[V 0, .bool false] 56) := Hb10w26.out.more m_;clear m_
    go_simp
    refine hK _ _ (HSm.out _ Hmw27.out) ?_; clear hK K;refine J3o 13 14 (by kernel_rfl) ?_ ?_
    ·refine J0a rfl (by kernel_rfl) (fun K hK => ?_); go_simp
     refine (c2 _).mono ?_;rintro e w28 ⟨rfl, m_⟩;have Hmw28 : Hid (More W w28) := Hmw27.out.trans m_;have Hb10w28 : Hid (Blk w28 (wd.heap.size) #[V 0, .bool false] 56) := Hb10w27.out.more m_;clear m_
     go_simp
     refine hK _ _ (HSm.out _ Hmw28.out) ?_; clear hK K;refine J0x 14 (by kernel_rfl) ?_
     ·refine J0a rfl (by kernel_rfl) (fun K hK => ?_); go_simp
      obtain ⟨w29, Hw_⟩ : ∃ w_ : World, Hid (w_ = w28.alloc (.cells #[V 0, .bool false] 56)) := ⟨_, rfl⟩;have m_ : More w28 w29 := Hw_.out ▸ (More.refl _).alloc _ _;have Hmw29 : Hid (More W w29) := Hmw28.out.trans m_;have Hb9w29 : Hid (Blk w29 w28.heap.size #[V 0, .bool false] 56) := Hw_.out ▸ Blk.last _ _ _;have Hl9 : Hid (w.heap.size + 2 <= w28.heap.size) := Nat.le_trans Hsz.out (by have h1 := Hmw28.out.size; have h2 := HB.out.2.2.2; have h3 := Hm_.out.size; have h4 := Hwd.out; rw [h4]; simpa using h1);have Hb10w29 : Hid (Blk w29 (wd.heap.size) #[V 0, .bool false] 56) := Hb10w28.out.more m_;have Hne : Hid (w28.heap.size ≠ wd.heap.size) := Nat.ne_of_gt Hb10w28.out.lt;rw [<- Hw_.out];clear m_ Hw_;refine hK _ _ (HSm.out _ Hmw29.out) ?_; clear hK K;have F : Hid (WhB w s (w28.heap.size) (wd.heap.size) w29) := ⟨HB.out.1.more Hmw29.out, HB.out.2.1.more Hmw29.out, Hb9w29.out, Hb10w29.out, HB.out.2.2.1.trans Hmw29.out, Hl9.out, Hl10.out, Hne.out⟩;refine J1p (listed' := #[true, true, true, true, true, true, true, true, true, true, true, true, true, true, true, true, false, false]) (by kernel_rfl) ?_;exact key _ _ _ F
    ·refine J0a rfl (by kernel_rfl) (fun K hK => ?_); go_simp
     obtain ⟨w30, Hw_⟩ : ∃ w_ : World, Hid (w_ = w27.alloc (.cells #[V 0, .bool false] 56)) := ⟨_, rfl⟩;have m_ : More w27 w30 := Hw_.out ▸ (More.refl _).alloc _ _;have Hmw30 : Hid (More W w30) := Hmw27.out.trans m_;have Hb9w30 : Hid (Blk w30 w27.heap.size #[V 0, .bool false] 56) := Hw_.out ▸ Blk.last _ _ _;have Hl9 : Hid (w.heap.size + 2 <= w27.heap.size) := Nat.le_trans Hsz.out (by have h1 := Hmw27.out.size; have h2 := HB.out.2.2.2; have h3 := Hm_.out.size; have h4 := Hwd.out; rw [h4]; simpa using h1);have Hb10w30 : Hid (Blk w30 (wd.heap.size) #[V 0, .bool false] 56) := Hb10w27.out.more m_;have Hne : Hid (w27.heap.size ≠ wd.heap.size) := Nat.ne_of_gt Hb10w27.out.lt;rw [<- Hw_.out];clear m_ Hw_;refine hK _ _ (HSm.out _ Hmw30.out) ?_; clear hK K;refine J0x 13 (by kernel_rfl) ?_
     ·refine J0a rfl (by kernel_rfl) (fun K hK => ?_); go_simp
      refine (c2 _).mono ?_;rintro e w31 ⟨rfl, m_⟩;have Hmw31 : Hid (More W w31) := Hmw30.out.trans m_;have Hb9w31 : Hid (Blk w31 (w27.heap.size) #[V 0, .bool false] 56) := Hb9w30.out.more m_;have Hb10w31 : Hid (Blk w31 (wd.heap.size) #[V 0, .bool false] 56) := Hb10w30.out.more m_;clear m_
      go_simp
      refine hK _ _ (HSm.out _ Hmw31.out) ?_; clear hK K;have F : Hid (WhB w s (w27.heap.size) (wd.heap.size) w31) := ⟨HB.out.1.more Hmw31.out, HB.out.2.1.more Hmw31.out, Hb9w31.out, Hb10w31.out, HB.out.2.2.1.trans Hmw31.out, Hl9.out, Hl10.out, Hne.out⟩;refine J1p (listed' := #[true, true, true, true, true, true, true, true, true, true, true, true, true, true, true, true, false, false]) (by kernel_rfl) ?_;exact key _ _ _ F
   ·refine J0a rfl (by kernel_rfl) (fun K hK => ?_); go_simp
    obtain ⟨w32, Hw_⟩ : ∃ w_ : World, Hid (w_ = w26.alloc (.cells #[V 0, .bool false] 56)) := ⟨_, rfl⟩;have m_ : More w26 w32 := Hw_.out ▸ (More.refl _).alloc _ _;have Hmw32 : Hid (More W w32) := Hmw26.out.trans m_;have Hb9w32 : Hid (Blk w32 w26.heap.size #[V 0, .bool false] 56) := Hw_.out ▸ Blk.last _ _ _;have Hl9 : Hid (w.heap.size + 2 <= w26.heap.size) := Nat.le_trans Hsz.out (by have h1 := Hmw26.out.size; have h2 := HB.out.2.2.2; have h3 := Hm_.out.size; have h4 := Hwd.out; rw [h4]; simpa using h1);have Hb10w32 : Hid (Blk w32 (wd.heap.size) #[V 0, .bool false] 56) := Hb10w26.out.more m_;have Hne : Hid (w26.heap.size ≠ wd.heap.size) := Nat.ne_of_gt Hb10w26.out.lt;rw [<- Hw_.out];clear m_ Hw_;refine hK _ _ (HSm.out _ Hmw32.out) ?_; clear hK K;refine J0x 6 (by kernel_rfl) ?_
    ·refine J0a rfl (by kernel_rfl) (fun K hK => ?_); go_simp
     refine (c1 _).mono ?_;rintro e w33 ⟨rfl, m_⟩;have Hmw33 : Hid (More W w33) := Hmw32.out.trans m_;have Hb9w33 : Hid (Blk w33 (w26.heap.size) #[V 0, .bool false] 56) := Hb9w32.out.more m_;have Hb10w33 : Hid (Blk w33 (wd.heap.size) #[V 0, .bool false] 56) := Hb10w32.out.more m_;clear m_
     go_simp
     refine hK _ _ (HSm.out _ Hmw33.out) ?_; clear hK K;refine J0x 13 (by kernel_rfl) ?_
     ·refine J0a rfl (by kernel_rfl) (fun K hK => ?_); go_simp
      refine (c2 _).mono ?_;rintro e w34 ⟨rfl, m_⟩;have Hmw34 : Hid (More W w34) := Hmw33.out.trans m_;have Hb9w34 : Hid (Blk w34 (w26.heap.size) #[V 0, .bool false] 56) := Hb9w33.out.more m_;have Hb10w34 : Hid (Blk w34 (wd.heap.size) #[V 0, .bool false] 56) := Hb10w33.out.more m_;clear m_
      go_simp
      refine hK _ _ (HSm.out _ Hmw34.out) ?_; clear hK K;have F : Hid (WhB w s (w26.heap.size) (wd.heap.size) w34) := ⟨HB.out.1.more Hmw34.out, HB.out.2.1.more Hmw34.out, Hb9w34.out, Hb10w34.out, HB.out.2.2.1.trans Hmw34.out, Hl9.out, Hl10.out, Hne.out⟩;refine J1p (listed' := #[true, true, true, true, true, true, true, true, true, true, true, true, true, true, true, true, false, false]) (by kernel_rfl) ?_;exact key _ _ _ F
 ·intro w1 g10 g9 F
  have t0 := F.out.b9.cell (j := 0) rfl;have t1 := F.out.b9.cell (j := 1) rfl;have u0 := F.out.b9.frozen 0;have u1 := F.out.b9.frozen 1;obtain ⟨w2, Hw2⟩ : ∃ w2 : World, Hid (w2 = (w1.setCell ⟨g9, 0, none⟩ (V lab)).setCell ⟨g9, 1, none⟩ (.bool las)) := ⟨_, rfl⟩;have h9 := F.out.lt9;have h10 := F.out.lt10;have hne9 := F.out.ne
  have F2 : Hid (Blk w2 w.heap.size (kv s) 117 /\ Blk w2 (w.heap.size + 1) (kv zeroK) 117 /\ Blk w2 g9 #[V lab, .bool las] 56 /\ Blk w2 g10 #[V 0, .bool false] 56 /\ More w w2) := by
   rw [Hw2.out];exact ⟨(F.out.r.other (by omega) _ _).other (by omega) _ _, (F.out.z.other (by omega) _ _).other (by omega) _ _, (F.out.b9.set 0 _).set 1 _, (F.out.b10.other hne9 _ _).other hne9 _ _, (F.out.up.setCell (by dsimp only; omega) _).setCell (by dsimp only; omega) _⟩
  obtain ⟨w3, Hw3⟩ : ∃ w3 : World, Hid (w3 = (w2.setCell ⟨g10, 0, none⟩ (V lbb)).setCell ⟨g10, 1, none⟩ (.bool lbs)) := ⟨_, rfl⟩
  have F3 : Hid (Blk w3 w.heap.size (kv s) 117 /\ Blk w3 (w.heap.size + 1) (kv zeroK) 117 /\ Blk w3 g9 #[V lab, .bool las] 56 /\ Blk w3 g10 #[V lbb, .bool lbs] 56 /\ More w w3) := by
   rw [Hw3.out];exact ⟨(F2.out.1.other (by omega) _ _).other (by omega) _ _, (F2.out.2.1.other (by omega) _ _).other (by omega) _ _, (F2.out.2.2.1.other hne9.symm _ _).other hne9.symm _ _, (F2.out.2.2.2.1.set 0 _).set 1 _, (F2.out.2.2.2.2.setCell (by dsimp only; omega) _).setCell (by dsimp only; omega) _⟩
  have Hlt : Hid (w.heap.size + 2 <= g9 /\ w.heap.size + 2 <= g10 /\ g9 ≠ g10) := ⟨h9, h10, hne9⟩;clear h9 h10 hne9;refine J0x 16 (by kernel_rfl) ?_;refine J0a rfl (by kernel_rfl) (fun K hK => ?_); go_simp;rw [<- Hw2.out];refine hK _ _ ((HS.out _).2 F2.out.1) ?_; clear hK K t0 t1 u0 u1;have t0 := F2.out.2.2.2.1.cell (j := 0) rfl;have t1 := F2.out.2.2.2.1.cell (j := 1) rfl;have u0 := F2.out.2.2.2.1.frozen 0;have u1 := F2.out.2.2.2.1.frozen 1;refine J0x 17 (by kernel_rfl) ?_;refine J0a rfl (by kernel_rfl) (fun K hK => ?_); go_simp;rw [<- Hw3.out];refine hK _ _ ((HS.out _).2 F3.out.1) ?_; clear hK K t0 t1 u0 u1;refine J3y (by kernel_rfl) ?_;have v0 := F3.out.2.2.1.cell (j := 0) rfl;have v1 := F3.out.2.2.1.cell (j := 1) rfl;have x0 := F3.out.2.2.2.1.cell (j := 0) rfl;have x1 := F3.out.2.2.2.1.cell (j := 1) rfl;clear hne HS0 c1 c2;rcases Hc.out with hc | hc | hc | hc
  ·subst hc
   have hend : whK 1 a b s = setK (setK s a ⟨lab, las⟩) b ⟨lbb, lbs⟩ := by rw [HK.out]; simp
   obtain ⟨w4, Hw4⟩ : ∃ w_ : World, Hid (w_ = (w3.setCell ⟨w.heap.size, a.toNat * 2, none⟩ (V lab)).setCell ⟨w.heap.size, a.toNat * 2 + 1, none⟩ (.bool las)) := ⟨_, rfl⟩
   have F4 : Hid (Blk w4 w.heap.size (kv (setK (s) a ⟨lab, las⟩)) 117 /\ Blk w4 (w.heap.size + 1) (kv zeroK) 117 /\ More w w4 /\ Blk w4 g10 #[V lbb, .bool lbs] 56) := by
    have hl := Hlt.out;rw [Hw4.out];exact ⟨(F3.out.1).setK a lab las ha8, ((F3.out.2.1).other (by omega) _ _).other (by omega) _ _, ((F3.out.2.2.2.2).setCell (by simp) _).setCell (by simp) _, ((F3.out.2.2.2.1).other (by omega) _ _).other (by omega) _ _⟩
   obtain ⟨w5, Hw5⟩ : ∃ w_ : World, Hid (w_ = (w4.setCell ⟨w.heap.size, b.toNat * 2, none⟩ (V lbb)).setCell ⟨w.heap.size, b.toNat * 2 + 1, none⟩ (.bool lbs)) := ⟨_, rfl⟩
   have F5 : Hid (Blk w5 w.heap.size (kv (setK (setK s a ⟨lab, las⟩) b ⟨lbb, lbs⟩)) 117 /\ Blk w5 (w.heap.size + 1) (kv zeroK) 117 /\ More w w5 /\ Blk w5 g10 #[V lbb, .bool lbs] 56) := by
    have hl := Hlt.out;rw [Hw5.out];exact ⟨(F4.out.1).setK b lbb lbs hb8, ((F4.out.2.1).other (by omega) _ _).other (by omega) _ _, ((F4.out.2.2.1).setCell (by simp) _).setCell (by simp) _, ((F4.out.2.2.2).other (by omega) _ _).other (by omega) _ _⟩
   have y0 := F4.out.2.2.2.cell (j := 0) rfl;have y1 := F4.out.2.2.2.cell (j := 1) rfl;obtain ⟨C, hC⟩ : ∃ C, kv (whK 1 a b s) = C := ⟨_, rfl⟩
   have HE : Hid (P (.returned (.agg C)) (w5.setRow (w.heap.size + 1) C)) := by
    have := HP.out (w5.setRow (w.heap.size + 1) C) (F5.out.2.2.1.setRow (by omega) C);rw [hC] at this;exact this
   have hb : w5.heap[w.heap.size]? = some (.cells C 117 (0, 0)) := by
    have := F5.out.1;rw [<- hend, hC] at this;exact this
   have hr : w5.heap[w.heap.size + 1]? = some (.cells (kv zeroK) 117 (0, 0)) := F5.out.2.1;have hi : (Tryz.prog.info? 117).map (·.size) = some C.size := by rw [<- hC]; exact J17 _
   have hold : (kv zeroK).size = C.size := by rw [<- hC, J0e, J0e]
   have hone : C.all (·.oneCell') = true := by rw [<- hC]; exact J2n _
   clear hend HP;go_wp2_with (first | (refine J2d rfl (.tmp 33) (.tmp 32) rfl w.heap.size a.toNat lab las rfl rfl J8k (s) 117 F3.out.1 ha8 w4 Hw4.out ?_) | (refine J2d rfl (.tmp 42) (.tmp 41) rfl w.heap.size b.toNat lbb lbs rfl rfl J8k (setK s a ⟨lab, las⟩) 117 F4.out.1 hb8 w5 Hw5.out ?_) | (refine wpList_load_row rfl 117 (.tmp 4) rfl w.heap.size rfl 117 _ (0, 0) _ hb Tryz.underlying117 rfl hi ?_) | (refine wpList_store_row rfl 117 (.tmp 8) (.tmp 43) rfl (w.heap.size + 1) _ rfl rfl 117 _ hr hi hold hone ?_))
   exact bodyPost_ret (results_cell_row rfl _ _ (w.heap.size + 1) 117 C (0, 0) _ rfl (setRow_heap _ _ _ _ _ _ hr) Tryz.underlying117 rfl hi) rfl HE.out
  ·subst hc
   have hend : whK 2 a b s = s := by rw [HK.out]; simp
   obtain ⟨C, hC⟩ : ∃ C, kv (whK 2 a b s) = C := ⟨_, rfl⟩
   have HE : Hid (P (.returned (.agg C)) (w3.setRow (w.heap.size + 1) C)) := by
    have := HP.out (w3.setRow (w.heap.size + 1) C) (F3.out.2.2.2.2.setRow (by omega) C);rw [hC] at this;exact this
   have hb : w3.heap[w.heap.size]? = some (.cells C 117 (0, 0)) := by
    have := F3.out.1;rw [<- hend, hC] at this;exact this
   have hr : w3.heap[w.heap.size + 1]? = some (.cells (kv zeroK) 117 (0, 0)) := F3.out.2.1;have hi : (Tryz.prog.info? 117).map (·.size) = some C.size := by rw [<- hC]; exact J17 _
   have hold : (kv zeroK).size = C.size := by rw [<- hC, J0e, J0e]
   have hone : C.all (·.oneCell') = true := by rw [<- hC]; exact J2n _
   clear hend HP;go_wp2_with (first | (refine wpList_load_row rfl 117 (.tmp 4) rfl w.heap.size rfl 117 _ (0, 0) _ hb Tryz.underlying117 rfl hi ?_) | (refine wpList_store_row rfl 117 (.tmp 8) (.tmp 43) rfl (w.heap.size + 1) _ rfl rfl 117 _ hr hi hold hone ?_))
   exact bodyPost_ret (results_cell_row rfl _ _ (w.heap.size + 1) 117 C (0, 0) _ rfl (setRow_heap _ _ _ _ _ _ hr) Tryz.underlying117 rfl hi) rfl HE.out
  ·subst hc
   have hend : whK 3 a b s = setK s a ⟨lab, las⟩ := by rw [HK.out]; simp
   obtain ⟨w4, Hw4⟩ : ∃ w_ : World, Hid (w_ = (w3.setCell ⟨w.heap.size, a.toNat * 2, none⟩ (V lab)).setCell ⟨w.heap.size, a.toNat * 2 + 1, none⟩ (.bool las)) := ⟨_, rfl⟩
   have F4 : Hid (Blk w4 w.heap.size (kv (setK (s) a ⟨lab, las⟩)) 117 /\ Blk w4 (w.heap.size + 1) (kv zeroK) 117 /\ More w w4 /\ Blk w4 g10 #[V lbb, .bool lbs] 56) := by
    have hl := Hlt.out;rw [Hw4.out];exact ⟨(F3.out.1).setK a lab las ha8, ((F3.out.2.1).other (by omega) _ _).other (by omega) _ _, ((F3.out.2.2.2.2).setCell (by simp) _).setCell (by simp) _, ((F3.out.2.2.2.1).other (by omega) _ _).other (by omega) _ _⟩
   obtain ⟨C, hC⟩ : ∃ C, kv (whK 3 a b s) = C := ⟨_, rfl⟩
   have HE : Hid (P (.returned (.agg C)) (w4.setRow (w.heap.size + 1) C)) := by
    have := HP.out (w4.setRow (w.heap.size + 1) C) (F4.out.2.2.1.setRow (by omega) C);rw [hC] at this;exact this
   have hb : w4.heap[w.heap.size]? = some (.cells C 117 (0, 0)) := by
    have := F4.out.1;rw [<- hend, hC] at this;exact this
   have hr : w4.heap[w.heap.size + 1]? = some (.cells (kv zeroK) 117 (0, 0)) := F4.out.2.1;have hi : (Tryz.prog.info? 117).map (·.size) = some C.size := by rw [<- hC]; exact J17 _
   have hold : (kv zeroK).size = C.size := by rw [<- hC, J0e, J0e]
   have hone : C.all (·.oneCell') = true := by rw [<- hC]; exact J2n _
   clear hend HP;go_wp2_with (first | (refine J2d rfl (.tmp 33) (.tmp 32) rfl w.heap.size a.toNat lab las rfl rfl J8k (s) 117 F3.out.1 ha8 w4 Hw4.out ?_) | (refine wpList_load_row rfl 117 (.tmp 4) rfl w.heap.size rfl 117 _ (0, 0) _ hb Tryz.underlying117 rfl hi ?_) | (refine wpList_store_row rfl 117 (.tmp 8) (.tmp 43) rfl (w.heap.size + 1) _ rfl rfl 117 _ hr hi hold hone ?_))
   exact bodyPost_ret (results_cell_row rfl _ _ (w.heap.size + 1) 117 C (0, 0) _ rfl (setRow_heap _ _ _ _ _ _ hr) Tryz.underlying117 rfl hi) rfl HE.out
  ·subst hc
   have hend : whK 4 a b s = setK s b ⟨lbb, lbs⟩ := by rw [HK.out]; simp
   obtain ⟨w4, Hw4⟩ : ∃ w_ : World, Hid (w_ = (w3.setCell ⟨w.heap.size, b.toNat * 2, none⟩ (V lbb)).setCell ⟨w.heap.size, b.toNat * 2 + 1, none⟩ (.bool lbs)) := ⟨_, rfl⟩
   have F4 : Hid (Blk w4 w.heap.size (kv (setK (s) b ⟨lbb, lbs⟩)) 117 /\ Blk w4 (w.heap.size + 1) (kv zeroK) 117 /\ More w w4 /\ Blk w4 g10 #[V lbb, .bool lbs] 56) := by
    have hl := Hlt.out;rw [Hw4.out];exact ⟨(F3.out.1).setK b lbb lbs hb8, ((F3.out.2.1).other (by omega) _ _).other (by omega) _ _, ((F3.out.2.2.2.2).setCell (by simp) _).setCell (by simp) _, ((F3.out.2.2.2.1).other (by omega) _ _).other (by omega) _ _⟩
   obtain ⟨C, hC⟩ : ∃ C, kv (whK 4 a b s) = C := ⟨_, rfl⟩
   have HE : Hid (P (.returned (.agg C)) (w4.setRow (w.heap.size + 1) C)) := by
    have := HP.out (w4.setRow (w.heap.size + 1) C) (F4.out.2.2.1.setRow (by omega) C);rw [hC] at this;exact this
   have hb : w4.heap[w.heap.size]? = some (.cells C 117 (0, 0)) := by
    have := F4.out.1;rw [<- hend, hC] at this;exact this
   have hr : w4.heap[w.heap.size + 1]? = some (.cells (kv zeroK) 117 (0, 0)) := F4.out.2.1;have hi : (Tryz.prog.info? 117).map (·.size) = some C.size := by rw [<- hC]; exact J17 _
   have hold : (kv zeroK).size = C.size := by rw [<- hC, J0e, J0e]
   have hone : C.all (·.oneCell') = true := by rw [<- hC]; exact J2n _
   clear hend HP;go_wp2_with (first | (refine J2d rfl (.tmp 42) (.tmp 41) rfl w.heap.size b.toNat lbb lbs rfl rfl J8k (s) 117 F3.out.1 hb8 w4 Hw4.out ?_) | (refine wpList_load_row rfl 117 (.tmp 4) rfl w.heap.size rfl 117 _ (0, 0) _ hb Tryz.underlying117 rfl hi ?_) | (refine wpList_store_row rfl 117 (.tmp 8) (.tmp 43) rfl (w.heap.size + 1) _ rfl rfl 117 _ hr hi hold hone ?_))
   exact bodyPost_ret (results_cell_row rfl _ _ (w.heap.size + 1) 117 C (0, 0) _ rfl (setRow_heap _ _ _ _ _ _ hr) Tryz.underlying117 rfl hi) rfl HE.out
theorem Jgk (s : KS) (M : Nat) (a b c n : Int) (w : World) (ha0 : 0 <= a) (ha1 : a < 8) :
  Calls Tryz.prog 76 #[.pointer (some ⟨M, 0, none⟩), .agg #[V 1, V a, V b, V c, V n], .agg (kv s)] w fun e w' => e = .returned (.agg (kv (setK s a (Kn.of n)))) /\ More w w' := by
 suffices hP : ∀ P : Ending -> World -> Prop, (∀ w', More w w' -> P (.returned (.agg (kv (setK s a (Kn.of n))))) w') -> Calls Tryz.prog 76 #[.pointer (some ⟨M, 0, none⟩), .agg #[V 1, V a, V b, V c, V n], .agg (kv s)] w P from hP _ (fun w' m => ⟨rfl, m⟩)
 intro P hP0;have HP : Hid (∀ w', More w w' -> P (.returned (.agg (kv (setK s a (Kn.of n))))) w') := hP0;clear hP0;obtain ⟨W, HW⟩ : ∃ W : World, Hid (W = ((w.alloc (.cells #[V 1, V a, V b, V c, V n] 42)).alloc (.cells (kv s) 117)).alloc (.cells #[V 0, .bool false, V 0, .bool false, V 0, .bool false, V 0, .bool false, V 0, .bool false, V 0, .bool false, V 0, .bool false, V 0, .bool false] 117)) := ⟨_, rfl⟩
 have HB : Hid (Blk W w.heap.size #[V 1, V a, V b, V c, V n] 42 /\ Blk W (w.heap.size + 1) (kv s) 117 /\ Blk W (w.heap.size + 1 + 1) (kv zeroK) 117 /\ More w W) := by
  rw [HW.out];refine ⟨((Blk.last _ _ _).alloc _ _).alloc _ _, (by simpa using Blk.last (w.alloc (.cells #[V 1, V a, V b, V c, V n] 42)) (kv s) 117 : Blk _ (w.heap.size + 1) _ _).alloc _ _, ?_, (((More.refl _).alloc _ _).alloc _ _).alloc _ _⟩;rw [J2z];exact (by simpa using Blk.last ((w.alloc (.cells #[V 1, V a, V b, V c, V n] 42)).alloc (.cells (kv s) 117)) #[V 0, .bool false, V 0, .bool false, V 0, .bool false, V 0, .bool false, V 0, .bool false, V 0, .bool false, V 0, .bool false, V 0, .bool false] 117)
 obtain ⟨S, HS⟩ : ∃ S : World -> Prop, Hid (∀ w', S w' ↔ More W w') := ⟨_, fun _ => Iff.rfl⟩;have HS0 : S W.drew := (HS.out _).2 (More.refl _).drew;have hne : Nonempty { w' // S w' } := ⟨⟨_, HS0⟩⟩;have k0 : ∀ i : { w' // S w' }, i.val.cell? ⟨w.heap.size, 0, none⟩ = some (V 1) := fun i => (HB.out.1.more ((HS.out _).1 i.property)).cell rfl
 have k1 : ∀ i : { w' // S w' }, i.val.cell? ⟨w.heap.size, 1, none⟩ = some (V a) := fun i => (HB.out.1.more ((HS.out _).1 i.property)).cell rfl
 have k2 : ∀ i : { w' // S w' }, i.val.cell? ⟨w.heap.size, 2, none⟩ = some (V b) := fun i => (HB.out.1.more ((HS.out _).1 i.property)).cell rfl
 have k3 : ∀ i : { w' // S w' }, i.val.cell? ⟨w.heap.size, 3, none⟩ = some (V c) := fun i => (HB.out.1.more ((HS.out _).1 i.property)).cell rfl
 have k4 : ∀ i : { w' // S w' }, i.val.cell? ⟨w.heap.size, 4, none⟩ = some (V n) := fun i => (HB.out.1.more ((HS.out _).1 i.property)).cell rfl
 have ha8 : a.toNat < 8 := by omega
 obtain ⟨v, hv⟩ : ∃ v, Kn.of n = v := ⟨_, rfl⟩;have c2 : ∀ w : World, Calls Tryz.prog 97 #[V n] w fun e w' => e = .returned (kn v.b v.s) /\ More w w' := fun w => hv ▸ J6o n w
 have Hx : Hid (kv (setK s a ⟨v.b, v.s⟩) = kv (setK s a (Kn.of n))) := by rw [hv]; exact rfl
 clear hv;obtain ⟨vb, vs⟩ := v;unfold kn at c2;dsimp only at c2;obtain ⟨cs, hcs⟩ : ∃ c, kv s = c := ⟨_, rfl⟩;have hcs16 : cs.size = 16 := hcs ▸ J0e s;rw [hcs] at HW;rw [hcs];clear hcs;go_enter Tryz.func76, Tryz.ntmps76;go_wp2_with (fail)
 rw [<- HW.out];clear hcs16;refine J13 (S := S) [(0, true), (1, true), (2, true), (3, true), (4, false), (5, true), (6, false)] (by kernel_rfl) (by kernel_rfl) (by kernel_rfl) HS0 ?_
 iterate 4 (refine J0m rfl (by kernel_rfl) (fun K hK => ?_); go_simp; refine hK _ _ ?_; clear hK K)
 refine J1u rfl (by kernel_rfl) (fun K hK => ?_); go_simp;refine (c2 _).mono ?_;rintro e w2 ⟨rfl, m_⟩;have Hmw2 : Hid (More W w2) := (More.refl W).drew.trans m_;clear m_
 go_simp
 refine hK _ _ ((HS.out _).2 Hmw2.out) ?_; clear hK K
 (refine J0m rfl (by kernel_rfl) (fun K hK => ?_); go_simp; refine hK _ _ ?_; clear hK K)
 have HR : Hid (Blk w2 (w.heap.size + 1) (kv s) 117) := HB.out.2.1.more (Hmw2.out);have q0 := HR.out.cell (kv_at _ _ ha8).1;have q1 := HR.out.cell (kv_at _ _ ha8).2;have q2 := HR.out.frozen (a.toNat * 2);have q3 := HR.out.frozen (a.toNat * 2 + 1);obtain ⟨wz, Hwz⟩ : ∃ w_ : World, Hid (w_ = (w2.setCell ⟨w.heap.size + 1, a.toNat * 2, none⟩ (V vb)).setCell ⟨w.heap.size + 1, a.toNat * 2 + 1, none⟩ (.bool vs)) := ⟨_, rfl⟩
 have F : Hid (Blk wz (w.heap.size + 1) (kv (setK s a (Kn.of n))) 117 /\ Blk wz (w.heap.size + 1 + 1) (kv zeroK) 117 /\ More w wz) := by
  rw [Hwz.out];refine ⟨?_, ((HB.out.2.2.1.more (Hmw2.out)).other (by omega) _ _).other (by omega) _ _, ((HB.out.2.2.2.trans (Hmw2.out)).setCell (by dsimp only; omega) _).setCell (by dsimp only; omega) _⟩;rw [<- Hx.out];exact HR.out.setK a vb vs ha8
 refine J1v rfl (by kernel_rfl) (by kernel_rfl) (fun K hK => ?_)
 go_simp
 rw [<- Hwz.out];refine hK _ _ ?_;clear hK K hne HS0 q0 q1 q2 q3 k0 k1 k2 k3 k4;refine NoPanic.normal ?_;obtain ⟨C, hC⟩ : ∃ C, kv (setK s a (Kn.of n)) = C := ⟨_, rfl⟩
 have HE : Hid (P (.returned (.agg C)) (wz.setRow (w.heap.size + 1 + 1) C)) := by
  have := HP.out (wz.setRow (w.heap.size + 1 + 1) C) (F.out.2.2.setRow (by omega) C);rw [hC] at this;exact this
 have hb : wz.heap[w.heap.size + 1]? = some (.cells C 117 (0, 0)) := by
  have := F.out.1;rw [hC] at this;exact this
 have hr : wz.heap[w.heap.size + 1 + 1]? = some (.cells (kv zeroK) 117 (0, 0)) := F.out.2.1;have hi : (Tryz.prog.info? 117).map (·.size) = some C.size := by rw [<- hC]; exact J17 _
 have hold : (kv zeroK).size = C.size := by rw [<- hC, J0e, J0e]
 have hone : C.all (·.oneCell') = true := by rw [<- hC]; exact J2n _
 clear HP;go_wp2_with (first | (refine wpList_load_row rfl 117 (.tmp 5) rfl (w.heap.size + 1) rfl 117 _ (0, 0) _ hb Tryz.underlying117 rfl hi ?_) | (refine wpList_store_row rfl 117 (.tmp 6) (.tmp 87) rfl (w.heap.size + 1 + 1) _ rfl rfl 117 _ hr hi hold hone ?_))
 exact bodyPost_ret (results_cell_row rfl _ _ (w.heap.size + 1 + 1) 117 C (0, 0) _ rfl (setRow_heap _ _ _ _ _ _ hr) Tryz.underlying117 rfl hi) rfl HE.out

theorem Jgl (s : KS) (M : Nat) (a b c n : Int) (w : World) (ha0 : 0 <= a) (ha1 : a < 8) (hb0 : 0 <= b) (hb1 : b < 8) :
  Calls Tryz.prog 76 #[.pointer (some ⟨M, 0, none⟩), .agg #[V 2, V a, V b, V c, V n], .agg (kv s)] w fun e w' => e = .returned (.agg (kv (setK s a (s b.toNat)))) /\ More w w' := by
 suffices hP : ∀ P : Ending -> World -> Prop, (∀ w', More w w' -> P (.returned (.agg (kv (setK s a (s b.toNat))))) w') -> Calls Tryz.prog 76 #[.pointer (some ⟨M, 0, none⟩), .agg #[V 2, V a, V b, V c, V n], .agg (kv s)] w P from hP _ (fun w' m => ⟨rfl, m⟩)
 intro P hP0;have HP : Hid (∀ w', More w w' -> P (.returned (.agg (kv (setK s a (s b.toNat))))) w') := hP0;clear hP0;obtain ⟨W, HW⟩ : ∃ W : World, Hid (W = ((w.alloc (.cells #[V 2, V a, V b, V c, V n] 42)).alloc (.cells (kv s) 117)).alloc (.cells #[V 0, .bool false, V 0, .bool false, V 0, .bool false, V 0, .bool false, V 0, .bool false, V 0, .bool false, V 0, .bool false, V 0, .bool false] 117)) := ⟨_, rfl⟩
 have HB : Hid (Blk W w.heap.size #[V 2, V a, V b, V c, V n] 42 /\ Blk W (w.heap.size + 1) (kv s) 117 /\ Blk W (w.heap.size + 1 + 1) (kv zeroK) 117 /\ More w W) := by
  rw [HW.out];refine ⟨((Blk.last _ _ _).alloc _ _).alloc _ _, (by simpa using Blk.last (w.alloc (.cells #[V 2, V a, V b, V c, V n] 42)) (kv s) 117 : Blk _ (w.heap.size + 1) _ _).alloc _ _, ?_, (((More.refl _).alloc _ _).alloc _ _).alloc _ _⟩;rw [J2z];exact (by simpa using Blk.last ((w.alloc (.cells #[V 2, V a, V b, V c, V n] 42)).alloc (.cells (kv s) 117)) #[V 0, .bool false, V 0, .bool false, V 0, .bool false, V 0, .bool false, V 0, .bool false, V 0, .bool false, V 0, .bool false, V 0, .bool false] 117)
 obtain ⟨S, HS⟩ : ∃ S : World -> Prop, Hid (∀ w', S w' ↔ More W w') := ⟨_, fun _ => Iff.rfl⟩;have HS0 : S W.drew := (HS.out _).2 (More.refl _).drew;have hne : Nonempty { w' // S w' } := ⟨⟨_, HS0⟩⟩;have k0 : ∀ i : { w' // S w' }, i.val.cell? ⟨w.heap.size, 0, none⟩ = some (V 2) := fun i => (HB.out.1.more ((HS.out _).1 i.property)).cell rfl
 have k1 : ∀ i : { w' // S w' }, i.val.cell? ⟨w.heap.size, 1, none⟩ = some (V a) := fun i => (HB.out.1.more ((HS.out _).1 i.property)).cell rfl
 have k2 : ∀ i : { w' // S w' }, i.val.cell? ⟨w.heap.size, 2, none⟩ = some (V b) := fun i => (HB.out.1.more ((HS.out _).1 i.property)).cell rfl
 have k3 : ∀ i : { w' // S w' }, i.val.cell? ⟨w.heap.size, 3, none⟩ = some (V c) := fun i => (HB.out.1.more ((HS.out _).1 i.property)).cell rfl
 have k4 : ∀ i : { w' // S w' }, i.val.cell? ⟨w.heap.size, 4, none⟩ = some (V n) := fun i => (HB.out.1.more ((HS.out _).1 i.property)).cell rfl
 have ha8 : a.toNat < 8 := by omega
 obtain ⟨xb, hxb⟩ : ∃ x, s b.toNat = x := ⟨_, rfl⟩;have hb8 : b.toNat < 8 := by omega
 have kb0 : ∀ i : { w' // S w' }, i.val.cell? ⟨w.heap.size + 1, b.toNat * 2, none⟩ = some (V xb.b) := fun i => by rw [(HB.out.2.1.more ((HS.out _).1 i.property)).cell (kv_at _ _ hb8).1, hxb]
 have kb1 : ∀ i : { w' // S w' }, i.val.cell? ⟨w.heap.size + 1, b.toNat * 2 + 1, none⟩ = some (.bool xb.s) := fun i => by rw [(HB.out.2.1.more ((HS.out _).1 i.property)).cell (kv_at _ _ hb8).2, hxb]
 have Hx : Hid (kv (setK s a ⟨xb.b, xb.s⟩) = kv (setK s a (s b.toNat))) := by rw [hxb]; exact rfl
 clear hxb;obtain ⟨vb, vs⟩ := xb;dsimp only at kb0 kb1;obtain ⟨cs, hcs⟩ : ∃ c, kv s = c := ⟨_, rfl⟩;have hcs16 : cs.size = 16 := hcs ▸ J0e s;rw [hcs] at HW;rw [hcs];clear hcs;go_enter Tryz.func76, Tryz.ntmps76;go_wp2_with (fail)
 rw [<- HW.out];clear hcs16;refine J13 (S := S) [(0, true), (1, true), (2, true), (3, true), (4, true), (5, true), (6, true), (7, false)] (by kernel_rfl) (by kernel_rfl) (by kernel_rfl) HS0 ?_
 iterate 6 (refine J0m rfl (by kernel_rfl) (fun K hK => ?_); go_simp; refine hK _ _ ?_; clear hK K)
 obtain ⟨wd, Hwd⟩ : ∃ w_ : World, Hid (w_ = W.drew) := ⟨_, rfl⟩;have Hmwd : Hid (More W wd) := Hwd.out ▸ (More.refl W).drew;rw [<- Hwd.out]
 (refine J0m rfl (by kernel_rfl) (fun K hK => ?_); go_simp; refine hK _ _ ?_; clear hK K)
 have HR : Hid (Blk wd (w.heap.size + 1) (kv s) 117) := HB.out.2.1.more (Hmwd.out);have q0 := HR.out.cell (kv_at _ _ ha8).1;have q1 := HR.out.cell (kv_at _ _ ha8).2;have q2 := HR.out.frozen (a.toNat * 2);have q3 := HR.out.frozen (a.toNat * 2 + 1);obtain ⟨wz, Hwz⟩ : ∃ w_ : World, Hid (w_ = (wd.setCell ⟨w.heap.size + 1, a.toNat * 2, none⟩ (V vb)).setCell ⟨w.heap.size + 1, a.toNat * 2 + 1, none⟩ (.bool vs)) := ⟨_, rfl⟩
 have F : Hid (Blk wz (w.heap.size + 1) (kv (setK s a (s b.toNat))) 117 /\ Blk wz (w.heap.size + 1 + 1) (kv zeroK) 117 /\ More w wz) := by
  rw [Hwz.out];refine ⟨?_, ((HB.out.2.2.1.more (Hmwd.out)).other (by omega) _ _).other (by omega) _ _, ((HB.out.2.2.2.trans (Hmwd.out)).setCell (by dsimp only; omega) _).setCell (by dsimp only; omega) _⟩;rw [<- Hx.out];exact HR.out.setK a vb vs ha8
 refine J1v rfl (by kernel_rfl) (by kernel_rfl) (fun K hK => ?_)
 go_simp
 rw [<- Hwz.out];refine hK _ _ ?_;clear hK K hne HS0 q0 q1 q2 q3 k0 k1 k2 k3 k4;refine NoPanic.normal ?_;obtain ⟨C, hC⟩ : ∃ C, kv (setK s a (s b.toNat)) = C := ⟨_, rfl⟩
 have HE : Hid (P (.returned (.agg C)) (wz.setRow (w.heap.size + 1 + 1) C)) := by
  have := HP.out (wz.setRow (w.heap.size + 1 + 1) C) (F.out.2.2.setRow (by omega) C);rw [hC] at this;exact this
 have hb : wz.heap[w.heap.size + 1]? = some (.cells C 117 (0, 0)) := by
  have := F.out.1;rw [hC] at this;exact this
 have hr : wz.heap[w.heap.size + 1 + 1]? = some (.cells (kv zeroK) 117 (0, 0)) := F.out.2.1;have hi : (Tryz.prog.info? 117).map (·.size) = some C.size := by rw [<- hC]; exact J17 _
 have hold : (kv zeroK).size = C.size := by rw [<- hC, J0e, J0e]
 have hone : C.all (·.oneCell') = true := by rw [<- hC]; exact J2n _
 clear HP;go_wp2_with (first | (refine wpList_load_row rfl 117 (.tmp 5) rfl (w.heap.size + 1) rfl 117 _ (0, 0) _ hb Tryz.underlying117 rfl hi ?_) | (refine wpList_store_row rfl 117 (.tmp 6) (.tmp 87) rfl (w.heap.size + 1 + 1) _ rfl rfl 117 _ hr hi hold hone ?_))
 exact bodyPost_ret (results_cell_row rfl _ _ (w.heap.size + 1 + 1) 117 C (0, 0) _ rfl (setRow_heap _ _ _ _ _ _ hr) Tryz.underlying117 rfl hi) rfl HE.out

theorem Je5 (s : KS) (M : Nat) (a b c n : Int) (w : World) (ha0 : 0 <= a) (ha1 : a < 8) (hb0 : 0 <= b) (hb1 : b < 8) (n0 : -9223372036854775808 <= n) (n1 : n <= 9223372036854775807) :
  Calls Tryz.prog 76 #[.pointer (some ⟨M, 0, none⟩), .agg #[V 10, V a, V b, V c, V n], .agg (kv s)] w fun e w' => e = .returned (.agg (kv (setK s a (Kn.index (s b.toNat) n)))) /\ More w w' := by
 suffices hP : ∀ P : Ending -> World -> Prop, (∀ w', More w w' -> P (.returned (.agg (kv (setK s a (Kn.index (s b.toNat) n))))) w') -> Calls Tryz.prog 76 #[.pointer (some ⟨M, 0, none⟩), .agg #[V 10, V a, V b, V c, V n], .agg (kv s)] w P from hP _ (fun w' m => ⟨rfl, m⟩)
 intro P hP0;have HP : Hid (∀ w', More w w' -> P (.returned (.agg (kv (setK s a (Kn.index (s b.toNat) n))))) w') := hP0;clear hP0;obtain ⟨W, HW⟩ : ∃ W : World, Hid (W = ((w.alloc (.cells #[V 10, V a, V b, V c, V n] 42)).alloc (.cells (kv s) 117)).alloc (.cells #[V 0, .bool false, V 0, .bool false, V 0, .bool false, V 0, .bool false, V 0, .bool false, V 0, .bool false, V 0, .bool false, V 0, .bool false] 117)) := ⟨_, rfl⟩
 have HB : Hid (Blk W w.heap.size #[V 10, V a, V b, V c, V n] 42 /\ Blk W (w.heap.size + 1) (kv s) 117 /\ Blk W (w.heap.size + 1 + 1) (kv zeroK) 117 /\ More w W) := by
  rw [HW.out];refine ⟨((Blk.last _ _ _).alloc _ _).alloc _ _, (by simpa using Blk.last (w.alloc (.cells #[V 10, V a, V b, V c, V n] 42)) (kv s) 117 : Blk _ (w.heap.size + 1) _ _).alloc _ _, ?_, (((More.refl _).alloc _ _).alloc _ _).alloc _ _⟩;rw [J2z];exact (by simpa using Blk.last ((w.alloc (.cells #[V 10, V a, V b, V c, V n] 42)).alloc (.cells (kv s) 117)) #[V 0, .bool false, V 0, .bool false, V 0, .bool false, V 0, .bool false, V 0, .bool false, V 0, .bool false, V 0, .bool false, V 0, .bool false] 117)
 obtain ⟨S, HS⟩ : ∃ S : World -> Prop, Hid (∀ w', S w' ↔ More W w') := ⟨_, fun _ => Iff.rfl⟩;have HS0 : S W.drew := (HS.out _).2 (More.refl _).drew;have hne : Nonempty { w' // S w' } := ⟨⟨_, HS0⟩⟩;have k0 : ∀ i : { w' // S w' }, i.val.cell? ⟨w.heap.size, 0, none⟩ = some (V 10) := fun i => (HB.out.1.more ((HS.out _).1 i.property)).cell rfl
 have k1 : ∀ i : { w' // S w' }, i.val.cell? ⟨w.heap.size, 1, none⟩ = some (V a) := fun i => (HB.out.1.more ((HS.out _).1 i.property)).cell rfl
 have k2 : ∀ i : { w' // S w' }, i.val.cell? ⟨w.heap.size, 2, none⟩ = some (V b) := fun i => (HB.out.1.more ((HS.out _).1 i.property)).cell rfl
 have k3 : ∀ i : { w' // S w' }, i.val.cell? ⟨w.heap.size, 3, none⟩ = some (V c) := fun i => (HB.out.1.more ((HS.out _).1 i.property)).cell rfl
 have k4 : ∀ i : { w' // S w' }, i.val.cell? ⟨w.heap.size, 4, none⟩ = some (V n) := fun i => (HB.out.1.more ((HS.out _).1 i.property)).cell rfl
 have ha8 : a.toNat < 8 := by omega
 obtain ⟨xb, hxb⟩ : ∃ x, s b.toNat = x := ⟨_, rfl⟩;have hb8 : b.toNat < 8 := by omega
 have kb0 : ∀ i : { w' // S w' }, i.val.cell? ⟨w.heap.size + 1, b.toNat * 2, none⟩ = some (V xb.b) := fun i => by rw [(HB.out.2.1.more ((HS.out _).1 i.property)).cell (kv_at _ _ hb8).1, hxb]
 have kb1 : ∀ i : { w' // S w' }, i.val.cell? ⟨w.heap.size + 1, b.toNat * 2 + 1, none⟩ = some (.bool xb.s) := fun i => by rw [(HB.out.2.1.more ((HS.out _).1 i.property)).cell (kv_at _ _ hb8).2, hxb]
 obtain ⟨v, hv⟩ : ∃ v, Kn.index xb n = v := ⟨_, rfl⟩;have c2 : ∀ w : World, Calls Tryz.prog 98 #[kn xb.b xb.s, V n] w fun e w' => e = .returned (kn v.b v.s) /\ More w w' := fun w => hv ▸ sum_k xb n n0 w
 have Hx : Hid (kv (setK s a ⟨v.b, v.s⟩) = kv (setK s a (Kn.index (s b.toNat) n))) := by rw [hxb, hv]; exact rfl
 clear hv hxb;obtain ⟨vb, vs⟩ := v;obtain ⟨xbb, xbs⟩ := xb;unfold kn at c2;dsimp only at c2 kb0 kb1;obtain ⟨cs, hcs⟩ : ∃ c, kv s = c := ⟨_, rfl⟩;have hcs16 : cs.size = 16 := hcs ▸ J0e s;rw [hcs] at HW;rw [hcs];clear hcs;go_enter Tryz.func76, Tryz.ntmps76;go_wp2_with (fail)
 rw [<- HW.out];clear hcs16;refine J13 (S := S) [(0, true), (1, true), (2, true), (3, true), (4, true), (5, true), (6, true), (7, true), (8, false), (9, true), (10, false)] (by kernel_rfl) (by kernel_rfl) (by kernel_rfl) HS0 ?_
 iterate 8 (refine J0m rfl (by kernel_rfl) (fun K hK => ?_); go_simp; refine hK _ _ ?_; clear hK K)
 refine J1u rfl (by kernel_rfl) (fun K hK => ?_); go_simp;refine (c2 _).mono ?_;rintro e w2 ⟨rfl, m_⟩;have Hmw2 : Hid (More W w2) := (More.refl W).drew.trans m_;clear m_
 go_simp
 refine hK _ _ ((HS.out _).2 Hmw2.out) ?_; clear hK K
 (refine J0m rfl (by kernel_rfl) (fun K hK => ?_); go_simp; refine hK _ _ ?_; clear hK K)
 have HR : Hid (Blk w2 (w.heap.size + 1) (kv s) 117) := HB.out.2.1.more (Hmw2.out);have q0 := HR.out.cell (kv_at _ _ ha8).1;have q1 := HR.out.cell (kv_at _ _ ha8).2;have q2 := HR.out.frozen (a.toNat * 2);have q3 := HR.out.frozen (a.toNat * 2 + 1);obtain ⟨wz, Hwz⟩ : ∃ w_ : World, Hid (w_ = (w2.setCell ⟨w.heap.size + 1, a.toNat * 2, none⟩ (V vb)).setCell ⟨w.heap.size + 1, a.toNat * 2 + 1, none⟩ (.bool vs)) := ⟨_, rfl⟩
 have F : Hid (Blk wz (w.heap.size + 1) (kv (setK s a (Kn.index (s b.toNat) n))) 117 /\ Blk wz (w.heap.size + 1 + 1) (kv zeroK) 117 /\ More w wz) := by
  rw [Hwz.out];refine ⟨?_, ((HB.out.2.2.1.more (Hmw2.out)).other (by omega) _ _).other (by omega) _ _, ((HB.out.2.2.2.trans (Hmw2.out)).setCell (by dsimp only; omega) _).setCell (by dsimp only; omega) _⟩;rw [<- Hx.out];exact HR.out.setK a vb vs ha8
 refine J1v rfl (by kernel_rfl) (by kernel_rfl) (fun K hK => ?_)
 go_simp
 rw [<- Hwz.out];refine hK _ _ ?_;clear hK K hne HS0 q0 q1 q2 q3 k0 k1 k2 k3 k4;refine NoPanic.normal ?_;obtain ⟨C, hC⟩ : ∃ C, kv (setK s a (Kn.index (s b.toNat) n)) = C := ⟨_, rfl⟩
 have HE : Hid (P (.returned (.agg C)) (wz.setRow (w.heap.size + 1 + 1) C)) := by
  have := HP.out (wz.setRow (w.heap.size + 1 + 1) C) (F.out.2.2.setRow (by omega) C);rw [hC] at this;exact this
 have hb : wz.heap[w.heap.size + 1]? = some (.cells C 117 (0, 0)) := by
  have := F.out.1;rw [hC] at this;exact this
 have hr : wz.heap[w.heap.size + 1 + 1]? = some (.cells (kv zeroK) 117 (0, 0)) := F.out.2.1;have hi : (Tryz.prog.info? 117).map (·.size) = some C.size := by rw [<- hC]; exact J17 _
 have hold : (kv zeroK).size = C.size := by rw [<- hC, J0e, J0e]
 have hone : C.all (·.oneCell') = true := by rw [<- hC]; exact J2n _
 clear HP;go_wp2_with (first | (refine wpList_load_row rfl 117 (.tmp 5) rfl (w.heap.size + 1) rfl 117 _ (0, 0) _ hb Tryz.underlying117 rfl hi ?_) | (refine wpList_store_row rfl 117 (.tmp 6) (.tmp 87) rfl (w.heap.size + 1 + 1) _ rfl rfl 117 _ hr hi hold hone ?_))
 exact bodyPost_ret (results_cell_row rfl _ _ (w.heap.size + 1 + 1) 117 C (0, 0) _ rfl (setRow_heap _ _ _ _ _ _ hr) Tryz.underlying117 rfl hi) rfl HE.out

theorem J98 (ov_ : Int) (hov_ : ov_ = 3 \/ ov_ = 5) (s : KS) (M : Nat) (a b c n : Int) (w : World) (rb ro rl rc : Nat) (log : Nat -> Int) (sec : Nat -> Bool) (hM : w.cell? ⟨M, 0, none⟩ = some (.slice (some ⟨rb, ro, none⟩) rl rc)) (hregs : RegsAt w rb ro rl log sec) (hc0 : 0 <= c) (hc1 : c < rl) (ha0 : 0 <= a) (ha1 : a < 8) :
  Calls Tryz.prog 76 #[.pointer (some ⟨M, 0, none⟩), .agg #[V ov_, V a, V b, V c, V n], .agg (kv s)] w fun e w' => e = .returned (.agg (kv (setK s a ⟨17, sec c.toNat⟩))) /\ More w w' := by
 suffices hP : ∀ P : Ending -> World -> Prop, (∀ w', More w w' -> P (.returned (.agg (kv (setK s a ⟨17, sec c.toNat⟩)))) w') -> Calls Tryz.prog 76 #[.pointer (some ⟨M, 0, none⟩), .agg #[V ov_, V a, V b, V c, V n], .agg (kv s)] w P from hP _ (fun w' m => ⟨rfl, m⟩)
 intro P hP0;have HP : Hid (∀ w', More w w' -> P (.returned (.agg (kv (setK s a ⟨17, sec c.toNat⟩)))) w') := hP0;clear hP0;have HM : Hid (w.cell? ⟨M, 0, none⟩ = some (.slice (some ⟨rb, ro, none⟩) rl rc) /\ RegsAt w rb ro rl log sec) := ⟨hM, hregs⟩;clear hM hregs;obtain ⟨W, HW⟩ : ∃ W : World, Hid (W = ((w.alloc (.cells #[V ov_, V a, V b, V c, V n] 42)).alloc (.cells (kv s) 117)).alloc (.cells #[V 0, .bool false, V 0, .bool false, V 0, .bool false, V 0, .bool false, V 0, .bool false, V 0, .bool false, V 0, .bool false, V 0, .bool false] 117)) := ⟨_, rfl⟩
 have HB : Hid (Blk W w.heap.size #[V ov_, V a, V b, V c, V n] 42 /\ Blk W (w.heap.size + 1) (kv s) 117 /\ Blk W (w.heap.size + 1 + 1) (kv zeroK) 117 /\ More w W) := by
  rw [HW.out];refine ⟨((Blk.last _ _ _).alloc _ _).alloc _ _, (by simpa using Blk.last (w.alloc (.cells #[V ov_, V a, V b, V c, V n] 42)) (kv s) 117 : Blk _ (w.heap.size + 1) _ _).alloc _ _, ?_, (((More.refl _).alloc _ _).alloc _ _).alloc _ _⟩;rw [J2z];exact (by simpa using Blk.last ((w.alloc (.cells #[V ov_, V a, V b, V c, V n] 42)).alloc (.cells (kv s) 117)) #[V 0, .bool false, V 0, .bool false, V 0, .bool false, V 0, .bool false, V 0, .bool false, V 0, .bool false, V 0, .bool false, V 0, .bool false] 117)
 obtain ⟨S, HS⟩ : ∃ S : World -> Prop, Hid (∀ w', S w' ↔ More W w') := ⟨_, fun _ => Iff.rfl⟩;have HS0 : S W.drew := (HS.out _).2 (More.refl _).drew;have hne : Nonempty { w' // S w' } := ⟨⟨_, HS0⟩⟩;have k0 : ∀ i : { w' // S w' }, i.val.cell? ⟨w.heap.size, 0, none⟩ = some (V ov_) := fun i => (HB.out.1.more ((HS.out _).1 i.property)).cell rfl
 rcases hov_ with rfl | rfl
 all_goals
  have k1 : ∀ i : { w' // S w' }, i.val.cell? ⟨w.heap.size, 1, none⟩ = some (V a) := fun i => (HB.out.1.more ((HS.out _).1 i.property)).cell rfl
  have k2 : ∀ i : { w' // S w' }, i.val.cell? ⟨w.heap.size, 2, none⟩ = some (V b) := fun i => (HB.out.1.more ((HS.out _).1 i.property)).cell rfl
  have k3 : ∀ i : { w' // S w' }, i.val.cell? ⟨w.heap.size, 3, none⟩ = some (V c) := fun i => (HB.out.1.more ((HS.out _).1 i.property)).cell rfl
  have k4 : ∀ i : { w' // S w' }, i.val.cell? ⟨w.heap.size, 4, none⟩ = some (V n) := fun i => (HB.out.1.more ((HS.out _).1 i.property)).cell rfl
  have ha8 : a.toNat < 8 := by omega
  have hcr : c.toNat < rl := by omega
  have kM : ∀ i : { w' // S w' }, i.val.cell? ⟨M, 0, none⟩ = some (.slice (some ⟨rb, ro, none⟩) rl rc) := fun i => (HB.out.2.2.2.trans ((HS.out _).1 i.property)).cell HM.out.1
  obtain ⟨lg, hlg⟩ : ∃ x, log c.toNat = x := ⟨_, rfl⟩;obtain ⟨vs, hvs⟩ : ∃ x, sec c.toNat = x := ⟨_, rfl⟩;have kr0 : ∀ i : { w' // S w' }, i.val.cell? ⟨rb, ro + c.toNat * 2, none⟩ = some (V lg) := fun i => hlg ▸ (HB.out.2.2.2.trans ((HS.out _).1 i.property)).cell (HM.out.2 _ hcr).1
  have kr1 : ∀ i : { w' // S w' }, i.val.cell? ⟨rb, ro + c.toNat * 2 + 1, none⟩ = some (.bool vs) := fun i => hvs ▸ (HB.out.2.2.2.trans ((HS.out _).1 i.property)).cell (HM.out.2 _ hcr).2
  have c2 : ∀ w : World, Calls Tryz.prog 99 #[.agg #[V lg, .bool vs]] w fun e w' => e = .returned (kn 17 vs) /\ More w w' := fun w => J9q lg vs w
  have Hx : Hid (kv (setK s a ⟨17, vs⟩) = kv (setK s a ⟨17, sec c.toNat⟩)) := by rw [hvs]; exact rfl
  clear hvs hlg;unfold kn at c2;obtain ⟨cs, hcs⟩ : ∃ c, kv s = c := ⟨_, rfl⟩;have hcs16 : cs.size = 16 := hcs ▸ J0e s;rw [hcs] at HW;rw [hcs];clear hcs;go_enter Tryz.func76, Tryz.ntmps76;go_wp2_with (fail)
  rw [<- HW.out];clear hcs16;refine J13 (S := S) [(0, true), (1, true), (2, true), (3, true), (4, true), (5, true), (6, true), (7, true), (8, true), (9, true), (10, true), (11, false), (12, true), (13, false)] (by kernel_rfl) (by kernel_rfl) (by kernel_rfl) HS0 ?_
  iterate 11 (refine J0m rfl (by kernel_rfl) (fun K hK => ?_); go_simp; refine hK _ _ ?_; clear hK K)
  refine J1u rfl (by kernel_rfl) (fun K hK => ?_); go_simp;refine (c2 _).mono ?_;rintro e w2 ⟨rfl, m_⟩;have Hmw2 : Hid (More W w2) := (More.refl W).drew.trans m_;clear m_
  go_simp
  refine hK _ _ ((HS.out _).2 Hmw2.out) ?_; clear hK K
  (refine J0m rfl (by kernel_rfl) (fun K hK => ?_); go_simp; refine hK _ _ ?_; clear hK K)
  have HR : Hid (Blk w2 (w.heap.size + 1) (kv s) 117) := HB.out.2.1.more (Hmw2.out);have q0 := HR.out.cell (kv_at _ _ ha8).1;have q1 := HR.out.cell (kv_at _ _ ha8).2;have q2 := HR.out.frozen (a.toNat * 2);have q3 := HR.out.frozen (a.toNat * 2 + 1);obtain ⟨wz, Hwz⟩ : ∃ w_ : World, Hid (w_ = (w2.setCell ⟨w.heap.size + 1, a.toNat * 2, none⟩ (V 17)).setCell ⟨w.heap.size + 1, a.toNat * 2 + 1, none⟩ (.bool vs)) := ⟨_, rfl⟩
  have F : Hid (Blk wz (w.heap.size + 1) (kv (setK s a ⟨17, sec c.toNat⟩)) 117 /\ Blk wz (w.heap.size + 1 + 1) (kv zeroK) 117 /\ More w wz) := by
   rw [Hwz.out];refine ⟨?_, ((HB.out.2.2.1.more (Hmw2.out)).other (by omega) _ _).other (by omega) _ _, ((HB.out.2.2.2.trans (Hmw2.out)).setCell (by dsimp only; omega) _).setCell (by dsimp only; omega) _⟩;rw [<- Hx.out];exact HR.out.setK a 17 vs ha8
  refine J1v rfl (by kernel_rfl) (by kernel_rfl) (fun K hK => ?_)
  go_simp
  rw [<- Hwz.out];refine hK _ _ ?_;clear hK K hne HS0 q0 q1 q2 q3 k0 k1 k2 k3 k4 kM kr0 kr1;refine NoPanic.normal ?_;obtain ⟨C, hC⟩ : ∃ C, kv (setK s a ⟨17, sec c.toNat⟩) = C := ⟨_, rfl⟩
  have HE : Hid (P (.returned (.agg C)) (wz.setRow (w.heap.size + 1 + 1) C)) := by
   have := HP.out (wz.setRow (w.heap.size + 1 + 1) C) (F.out.2.2.setRow (by omega) C);rw [hC] at this;exact this
  have hb : wz.heap[w.heap.size + 1]? = some (.cells C 117 (0, 0)) := by
   have := F.out.1;rw [hC] at this;exact this
  have hr : wz.heap[w.heap.size + 1 + 1]? = some (.cells (kv zeroK) 117 (0, 0)) := F.out.2.1;have hi : (Tryz.prog.info? 117).map (·.size) = some C.size := by rw [<- hC]; exact J17 _
  have hold : (kv zeroK).size = C.size := by rw [<- hC, J0e, J0e]
  have hone : C.all (·.oneCell') = true := by rw [<- hC]; exact J2n _
  clear HP;go_wp2_with (first | (refine wpList_load_row rfl 117 (.tmp 5) rfl (w.heap.size + 1) rfl 117 _ (0, 0) _ hb Tryz.underlying117 rfl hi ?_) | (refine wpList_store_row rfl 117 (.tmp 6) (.tmp 87) rfl (w.heap.size + 1 + 1) _ rfl rfl 117 _ hr hi hold hone ?_))
  exact bodyPost_ret (results_cell_row rfl _ _ (w.heap.size + 1 + 1) 117 C (0, 0) _ rfl (setRow_heap _ _ _ _ _ _ hr) Tryz.underlying117 rfl hi) rfl HE.out

theorem Je6 (s : KS) (M : Nat) (a b c n : Int) (w : World) (ha0 : 0 <= a) (ha1 : a < 8) (n0 : 0 <= n) (n1 : n <= 9223372036854775807) :
  Calls Tryz.prog 76 #[.pointer (some ⟨M, 0, none⟩), .agg #[V 11, V a, V b, V c, V n], .agg (kv s)] w fun e w' => e = .returned (.agg (kv (setK s a (Kn.less (s a.toNat) (Kn.of (wrap64 (n - 1))))))) /\ More w w' := by
 suffices hP : ∀ P : Ending -> World -> Prop, (∀ w', More w w' -> P (.returned (.agg (kv (setK s a (Kn.less (s a.toNat) (Kn.of (wrap64 (n - 1)))))))) w') -> Calls Tryz.prog 76 #[.pointer (some ⟨M, 0, none⟩), .agg #[V 11, V a, V b, V c, V n], .agg (kv s)] w P from hP _ (fun w' m => ⟨rfl, m⟩)
 intro P hP0;have HP : Hid (∀ w', More w w' -> P (.returned (.agg (kv (setK s a (Kn.less (s a.toNat) (Kn.of (wrap64 (n - 1)))))))) w') := hP0;clear hP0;obtain ⟨W, HW⟩ : ∃ W : World, Hid (W = ((w.alloc (.cells #[V 11, V a, V b, V c, V n] 42)).alloc (.cells (kv s) 117)).alloc (.cells #[V 0, .bool false, V 0, .bool false, V 0, .bool false, V 0, .bool false, V 0, .bool false, V 0, .bool false, V 0, .bool false, V 0, .bool false] 117)) := ⟨_, rfl⟩
 have HB : Hid (Blk W w.heap.size #[V 11, V a, V b, V c, V n] 42 /\ Blk W (w.heap.size + 1) (kv s) 117 /\ Blk W (w.heap.size + 1 + 1) (kv zeroK) 117 /\ More w W) := by
  rw [HW.out];refine ⟨((Blk.last _ _ _).alloc _ _).alloc _ _, (by simpa using Blk.last (w.alloc (.cells #[V 11, V a, V b, V c, V n] 42)) (kv s) 117 : Blk _ (w.heap.size + 1) _ _).alloc _ _, ?_, (((More.refl _).alloc _ _).alloc _ _).alloc _ _⟩;rw [J2z];exact (by simpa using Blk.last ((w.alloc (.cells #[V 11, V a, V b, V c, V n] 42)).alloc (.cells (kv s) 117)) #[V 0, .bool false, V 0, .bool false, V 0, .bool false, V 0, .bool false, V 0, .bool false, V 0, .bool false, V 0, .bool false, V 0, .bool false] 117)
 obtain ⟨S, HS⟩ : ∃ S : World -> Prop, Hid (∀ w', S w' ↔ More W w') := ⟨_, fun _ => Iff.rfl⟩;have HS0 : S W.drew := (HS.out _).2 (More.refl _).drew;have hne : Nonempty { w' // S w' } := ⟨⟨_, HS0⟩⟩;have k0 : ∀ i : { w' // S w' }, i.val.cell? ⟨w.heap.size, 0, none⟩ = some (V 11) := fun i => (HB.out.1.more ((HS.out _).1 i.property)).cell rfl
 have k1 : ∀ i : { w' // S w' }, i.val.cell? ⟨w.heap.size, 1, none⟩ = some (V a) := fun i => (HB.out.1.more ((HS.out _).1 i.property)).cell rfl
 have k2 : ∀ i : { w' // S w' }, i.val.cell? ⟨w.heap.size, 2, none⟩ = some (V b) := fun i => (HB.out.1.more ((HS.out _).1 i.property)).cell rfl
 have k3 : ∀ i : { w' // S w' }, i.val.cell? ⟨w.heap.size, 3, none⟩ = some (V c) := fun i => (HB.out.1.more ((HS.out _).1 i.property)).cell rfl
 have k4 : ∀ i : { w' // S w' }, i.val.cell? ⟨w.heap.size, 4, none⟩ = some (V n) := fun i => (HB.out.1.more ((HS.out _).1 i.property)).cell rfl
 have ha8 : a.toNat < 8 := by omega
 obtain ⟨xa, hxa⟩ : ∃ x, s a.toNat = x := ⟨_, rfl⟩;have ka0 : ∀ i : { w' // S w' }, i.val.cell? ⟨w.heap.size + 1, a.toNat * 2, none⟩ = some (V xa.b) := fun i => by rw [(HB.out.2.1.more ((HS.out _).1 i.property)).cell (kv_at _ _ ha8).1, hxa]
 have ka1 : ∀ i : { w' // S w' }, i.val.cell? ⟨w.heap.size + 1, a.toNat * 2 + 1, none⟩ = some (.bool xa.s) := fun i => by rw [(HB.out.2.1.more ((HS.out _).1 i.property)).cell (kv_at _ _ ha8).2, hxa]
 have hwr : IntKind.i64.wrap (n - 1) = n - 1 := by rw [IntKind.wrap_i64]; omega
 have hn2 : wrap64 (n - 1) = n - 1 := by unfold wrap64; omega
 obtain ⟨ov, hov⟩ : ∃ v, Kn.of (n - 1) = v := ⟨_, rfl⟩;have c0 : ∀ w : World, Calls Tryz.prog 97 #[V (n - 1)] w fun e w' => e = .returned (kn ov.b ov.s) /\ More w w' := fun w => hov ▸ J6o (n - 1) w
 obtain ⟨v, hv⟩ : ∃ v, Kn.less xa ov = v := ⟨_, rfl⟩;have c2 : ∀ w : World, Calls Tryz.prog 96 #[kn xa.b xa.s, kn ov.b ov.s] w fun e w' => e = .returned (kn v.b v.s) /\ More w w' := fun w => hv ▸ J5c xa.b ov.b xa.s ov.s w
 have Hx : Hid (kv (setK s a ⟨v.b, v.s⟩) = kv (setK s a (Kn.less (s a.toNat) (Kn.of (wrap64 (n - 1)))))) := by rw [hn2, hxa, hov, hv]; exact rfl
 clear hv hxa hov hn2;obtain ⟨vb, vs⟩ := v;obtain ⟨xab, xas⟩ := xa;obtain ⟨ob, os⟩ := ov;unfold kn at c0 c2;dsimp only at c0 c2 ka0 ka1;obtain ⟨cs, hcs⟩ : ∃ c, kv s = c := ⟨_, rfl⟩;have hcs16 : cs.size = 16 := hcs ▸ J0e s;rw [hcs] at HW;rw [hcs];clear hcs;go_enter Tryz.func76, Tryz.ntmps76;go_wp2_with (fail)
 rw [<- HW.out];clear hcs16;refine J13 (S := S) [(0, true), (1, true), (2, true), (3, true), (4, true), (5, true), (6, true), (7, true), (8, true), (9, false), (10, false), (11, true), (12, false)] (by kernel_rfl) (by kernel_rfl) (by kernel_rfl) HS0 ?_
 iterate 9 (refine J0m rfl (by kernel_rfl) (fun K hK => ?_); go_simp; refine hK _ _ ?_; clear hK K)
 refine J1u rfl (by kernel_rfl) (fun K hK => ?_); go_simp
 try rw [hwr]
 refine (c0 _).mono ?_;rintro e w2 ⟨rfl, m_⟩;have Hmw2 : Hid (More W w2) := (More.refl W).drew.trans m_;clear m_
 go_simp
 refine hK _ _ ((HS.out _).2 Hmw2.out) ?_; clear hK K;refine J1u rfl (by kernel_rfl) (fun K hK => ?_); go_simp
 try rw [hwr]
 refine (c2 _).mono ?_;rintro e w3 ⟨rfl, m_⟩;have Hmw3 : Hid (More W w3) := Hmw2.out.trans m_;clear m_
 go_simp
 refine hK _ _ ((HS.out _).2 Hmw3.out) ?_; clear hK K
 (refine J0m rfl (by kernel_rfl) (fun K hK => ?_); go_simp; refine hK _ _ ?_; clear hK K)
 have HR : Hid (Blk w3 (w.heap.size + 1) (kv s) 117) := HB.out.2.1.more (Hmw3.out);have q0 := HR.out.cell (kv_at _ _ ha8).1;have q1 := HR.out.cell (kv_at _ _ ha8).2;have q2 := HR.out.frozen (a.toNat * 2);have q3 := HR.out.frozen (a.toNat * 2 + 1);obtain ⟨wz, Hwz⟩ : ∃ w_ : World, Hid (w_ = (w3.setCell ⟨w.heap.size + 1, a.toNat * 2, none⟩ (V vb)).setCell ⟨w.heap.size + 1, a.toNat * 2 + 1, none⟩ (.bool vs)) := ⟨_, rfl⟩
 have F : Hid (Blk wz (w.heap.size + 1) (kv (setK s a (Kn.less (s a.toNat) (Kn.of (wrap64 (n - 1)))))) 117 /\ Blk wz (w.heap.size + 1 + 1) (kv zeroK) 117 /\ More w wz) := by
  rw [Hwz.out];refine ⟨?_, ((HB.out.2.2.1.more (Hmw3.out)).other (by omega) _ _).other (by omega) _ _, ((HB.out.2.2.2.trans (Hmw3.out)).setCell (by dsimp only; omega) _).setCell (by dsimp only; omega) _⟩;rw [<- Hx.out];exact HR.out.setK a vb vs ha8
 refine J1v rfl (by kernel_rfl) (by kernel_rfl) (fun K hK => ?_)
 go_simp
 rw [<- Hwz.out];refine hK _ _ ?_;clear hK K hne HS0 q0 q1 q2 q3 k0 k1 k2 k3 k4;refine NoPanic.normal ?_;obtain ⟨C, hC⟩ : ∃ C, kv (setK s a (Kn.less (s a.toNat) (Kn.of (wrap64 (n - 1))))) = C := ⟨_, rfl⟩
 have HE : Hid (P (.returned (.agg C)) (wz.setRow (w.heap.size + 1 + 1) C)) := by
  have := HP.out (wz.setRow (w.heap.size + 1 + 1) C) (F.out.2.2.setRow (by omega) C);rw [hC] at this;exact this
 have hb : wz.heap[w.heap.size + 1]? = some (.cells C 117 (0, 0)) := by
  have := F.out.1;rw [hC] at this;exact this
 have hr : wz.heap[w.heap.size + 1 + 1]? = some (.cells (kv zeroK) 117 (0, 0)) := F.out.2.1;have hi : (Tryz.prog.info? 117).map (·.size) = some C.size := by rw [<- hC]; exact J17 _
 have hold : (kv zeroK).size = C.size := by rw [<- hC, J0e, J0e]
 have hone : C.all (·.oneCell') = true := by rw [<- hC]; exact J2n _
 clear HP;go_wp2_with (first | (refine wpList_load_row rfl 117 (.tmp 5) rfl (w.heap.size + 1) rfl 117 _ (0, 0) _ hb Tryz.underlying117 rfl hi ?_) | (refine wpList_store_row rfl 117 (.tmp 6) (.tmp 87) rfl (w.heap.size + 1 + 1) _ rfl rfl 117 _ hr hi hold hone ?_))
 exact bodyPost_ret (results_cell_row rfl _ _ (w.heap.size + 1 + 1) 117 C (0, 0) _ rfl (setRow_heap _ _ _ _ _ _ hr) Tryz.underlying117 rfl hi) rfl HE.out

theorem Je7 (s : KS) (M : Nat) (op a b c n : Int) (w : World) (ho0 : 21 <= op) (ho1 : op <= 30) (ha0 : 0 <= a) (ha1 : a < 8) (hb0 : 0 <= b) (hb1 : b < 8) (hc0 : 0 <= c) (hc1 : c < 8) :
  Calls Tryz.prog 76 #[.pointer (some ⟨M, 0, none⟩), .agg #[V op, V a, V b, V c, V n], .agg (kv s)] w fun e w' => e = .returned (.agg (kv (setK s a (Kn.op (op - 20) (s b.toNat) (s c.toNat))))) /\ More w w' := by
 suffices hP : ∀ P : Ending -> World -> Prop, (∀ w', More w w' -> P (.returned (.agg (kv (setK s a (Kn.op (op - 20) (s b.toNat) (s c.toNat)))))) w') -> Calls Tryz.prog 76 #[.pointer (some ⟨M, 0, none⟩), .agg #[V op, V a, V b, V c, V n], .agg (kv s)] w P from hP _ (fun w' m => ⟨rfl, m⟩)
 intro P hP0;have HP : Hid (∀ w', More w w' -> P (.returned (.agg (kv (setK s a (Kn.op (op - 20) (s b.toNat) (s c.toNat)))))) w') := hP0;clear hP0;have e1 : (op == 1) = false := by simp; omega
 have e2 : (op == 2) = false := by simp; omega
 have e10 : (op == 10) = false := by simp; omega
 have e3 : (op == 3) = false := by simp; omega
 have e5 : (op == 5) = false := by simp; omega
 have e11 : (op == 11) = false := by simp; omega
 have e4 : (op == 4) = false := by simp; omega
 have e6 : (op == 6) = false := by simp; omega
 have e12 : (op == 12) = false := by simp; omega
 obtain ⟨W, HW⟩ : ∃ W : World, Hid (W = ((w.alloc (.cells #[V op, V a, V b, V c, V n] 42)).alloc (.cells (kv s) 117)).alloc (.cells #[V 0, .bool false, V 0, .bool false, V 0, .bool false, V 0, .bool false, V 0, .bool false, V 0, .bool false, V 0, .bool false, V 0, .bool false] 117)) := ⟨_, rfl⟩
 have HB : Hid (Blk W w.heap.size #[V op, V a, V b, V c, V n] 42 /\ Blk W (w.heap.size + 1) (kv s) 117 /\ Blk W (w.heap.size + 1 + 1) (kv zeroK) 117 /\ More w W) := by
  rw [HW.out];refine ⟨((Blk.last _ _ _).alloc _ _).alloc _ _, (by simpa using Blk.last (w.alloc (.cells #[V op, V a, V b, V c, V n] 42)) (kv s) 117 : Blk _ (w.heap.size + 1) _ _).alloc _ _, ?_, (((More.refl _).alloc _ _).alloc _ _).alloc _ _⟩;rw [J2z];exact (by simpa using Blk.last ((w.alloc (.cells #[V op, V a, V b, V c, V n] 42)).alloc (.cells (kv s) 117)) #[V 0, .bool false, V 0, .bool false, V 0, .bool false, V 0, .bool false, V 0, .bool false, V 0, .bool false, V 0, .bool false, V 0, .bool false] 117)
 obtain ⟨S, HS⟩ : ∃ S : World -> Prop, Hid (∀ w', S w' ↔ More W w') := ⟨_, fun _ => Iff.rfl⟩;have HS0 : S W.drew := (HS.out _).2 (More.refl _).drew;have hne : Nonempty { w' // S w' } := ⟨⟨_, HS0⟩⟩;have k0 : ∀ i : { w' // S w' }, i.val.cell? ⟨w.heap.size, 0, none⟩ = some (V op) := fun i => (HB.out.1.more ((HS.out _).1 i.property)).cell rfl
 have k1 : ∀ i : { w' // S w' }, i.val.cell? ⟨w.heap.size, 1, none⟩ = some (V a) := fun i => (HB.out.1.more ((HS.out _).1 i.property)).cell rfl
 have k2 : ∀ i : { w' // S w' }, i.val.cell? ⟨w.heap.size, 2, none⟩ = some (V b) := fun i => (HB.out.1.more ((HS.out _).1 i.property)).cell rfl
 have k3 : ∀ i : { w' // S w' }, i.val.cell? ⟨w.heap.size, 3, none⟩ = some (V c) := fun i => (HB.out.1.more ((HS.out _).1 i.property)).cell rfl
 have k4 : ∀ i : { w' // S w' }, i.val.cell? ⟨w.heap.size, 4, none⟩ = some (V n) := fun i => (HB.out.1.more ((HS.out _).1 i.property)).cell rfl
 have ha8 : a.toNat < 8 := by omega
 obtain ⟨xb, hxb⟩ : ∃ x, s b.toNat = x := ⟨_, rfl⟩;have hb8 : b.toNat < 8 := by omega
 have kb0 : ∀ i : { w' // S w' }, i.val.cell? ⟨w.heap.size + 1, b.toNat * 2, none⟩ = some (V xb.b) := fun i => by rw [(HB.out.2.1.more ((HS.out _).1 i.property)).cell (kv_at _ _ hb8).1, hxb]
 have kb1 : ∀ i : { w' // S w' }, i.val.cell? ⟨w.heap.size + 1, b.toNat * 2 + 1, none⟩ = some (.bool xb.s) := fun i => by rw [(HB.out.2.1.more ((HS.out _).1 i.property)).cell (kv_at _ _ hb8).2, hxb]
 obtain ⟨xc, hxc⟩ : ∃ x, s c.toNat = x := ⟨_, rfl⟩;have hc8 : c.toNat < 8 := by omega
 have kc0 : ∀ i : { w' // S w' }, i.val.cell? ⟨w.heap.size + 1, c.toNat * 2, none⟩ = some (V xc.b) := fun i => by rw [(HB.out.2.1.more ((HS.out _).1 i.property)).cell (kv_at _ _ hc8).1, hxc]
 have kc1 : ∀ i : { w' // S w' }, i.val.cell? ⟨w.heap.size + 1, c.toNat * 2 + 1, none⟩ = some (.bool xc.s) := fun i => by rw [(HB.out.2.1.more ((HS.out _).1 i.property)).cell (kv_at _ _ hc8).2, hxc]
 have hwr : IntKind.i64.wrap (op - 20) = op - 20 := by rw [IntKind.wrap_i64]; omega
 obtain ⟨v, hv⟩ : ∃ v, Kn.op (op - 20) xb xc = v := ⟨_, rfl⟩;have c2 : ∀ w : World, Calls Tryz.prog 100 #[V (op - 20), kn xb.b xb.s, kn xc.b xc.s] w fun e w' => e = .returned (kn v.b v.s) /\ More w w' := fun w => hv ▸ J4g (op - 20) xb.b xc.b xb.s xc.s w
 have Hx : Hid (kv (setK s a ⟨v.b, v.s⟩) = kv (setK s a (Kn.op (op - 20) (s b.toNat) (s c.toNat)))) := by rw [hxb, hxc, hv]; exact rfl
 clear hv hxb hxc;obtain ⟨vb, vs⟩ := v;obtain ⟨xbb, xbs⟩ := xb;obtain ⟨xcb, xcs⟩ := xc;unfold kn at c2;dsimp only at c2 kb0 kb1 kc0 kc1;obtain ⟨cs, hcs⟩ : ∃ c, kv s = c := ⟨_, rfl⟩;have hcs16 : cs.size = 16 := hcs ▸ J0e s;rw [hcs] at HW;rw [hcs];clear hcs;go_enter Tryz.func76, Tryz.ntmps76;go_wp2_with (fail)
 rw [<- HW.out];clear hcs16;refine J13 (S := S) [(0, true), (1, true), (2, true), (3, true), (4, true), (5, true), (6, true), (7, true), (8, true), (9, true), (10, true), (11, true), (12, true), (13, false), (14, true), (15, false)] (by kernel_rfl) (by kernel_rfl) (by kernel_rfl) HS0 ?_
 iterate 13 (refine J0m rfl (by kernel_rfl) (fun K hK => ?_); go_simp; refine hK _ _ ?_; clear hK K)
 refine J1u rfl (by kernel_rfl) (fun K hK => ?_); go_simp
 try rw [hwr]
 refine (c2 _).mono ?_;rintro e w2 ⟨rfl, m_⟩;have Hmw2 : Hid (More W w2) := (More.refl W).drew.trans m_;clear m_
 go_simp
 refine hK _ _ ((HS.out _).2 Hmw2.out) ?_; clear hK K
 (refine J0m rfl (by kernel_rfl) (fun K hK => ?_); go_simp; refine hK _ _ ?_; clear hK K)
 have HR : Hid (Blk w2 (w.heap.size + 1) (kv s) 117) := HB.out.2.1.more (Hmw2.out);have q0 := HR.out.cell (kv_at _ _ ha8).1;have q1 := HR.out.cell (kv_at _ _ ha8).2;have q2 := HR.out.frozen (a.toNat * 2);have q3 := HR.out.frozen (a.toNat * 2 + 1);obtain ⟨wz, Hwz⟩ : ∃ w_ : World, Hid (w_ = (w2.setCell ⟨w.heap.size + 1, a.toNat * 2, none⟩ (V vb)).setCell ⟨w.heap.size + 1, a.toNat * 2 + 1, none⟩ (.bool vs)) := ⟨_, rfl⟩
 have F : Hid (Blk wz (w.heap.size + 1) (kv (setK s a (Kn.op (op - 20) (s b.toNat) (s c.toNat)))) 117 /\ Blk wz (w.heap.size + 1 + 1) (kv zeroK) 117 /\ More w wz) := by
  rw [Hwz.out];refine ⟨?_, ((HB.out.2.2.1.more (Hmw2.out)).other (by omega) _ _).other (by omega) _ _, ((HB.out.2.2.2.trans (Hmw2.out)).setCell (by dsimp only; omega) _).setCell (by dsimp only; omega) _⟩;rw [<- Hx.out];exact HR.out.setK a vb vs ha8
 refine J1v rfl (by kernel_rfl) (by kernel_rfl) (fun K hK => ?_)
 go_simp
 rw [<- Hwz.out];refine hK _ _ ?_;clear hK K hne HS0 q0 q1 q2 q3 k0 k1 k2 k3 k4;refine NoPanic.normal ?_;obtain ⟨C, hC⟩ : ∃ C, kv (setK s a (Kn.op (op - 20) (s b.toNat) (s c.toNat))) = C := ⟨_, rfl⟩
 have HE : Hid (P (.returned (.agg C)) (wz.setRow (w.heap.size + 1 + 1) C)) := by
  have := HP.out (wz.setRow (w.heap.size + 1 + 1) C) (F.out.2.2.setRow (by omega) C);rw [hC] at this;exact this
 have hb : wz.heap[w.heap.size + 1]? = some (.cells C 117 (0, 0)) := by
  have := F.out.1;rw [hC] at this;exact this
 have hr : wz.heap[w.heap.size + 1 + 1]? = some (.cells (kv zeroK) 117 (0, 0)) := F.out.2.1;have hi : (Tryz.prog.info? 117).map (·.size) = some C.size := by rw [<- hC]; exact J17 _
 have hold : (kv zeroK).size = C.size := by rw [<- hC, J0e, J0e]
 have hone : C.all (·.oneCell') = true := by rw [<- hC]; exact J2n _
 clear HP;go_wp2_with (first | (refine wpList_load_row rfl 117 (.tmp 5) rfl (w.heap.size + 1) rfl 117 _ (0, 0) _ hb Tryz.underlying117 rfl hi ?_) | (refine wpList_store_row rfl 117 (.tmp 6) (.tmp 87) rfl (w.heap.size + 1 + 1) _ rfl rfl 117 _ hr hi hold hone ?_))
 exact bodyPost_ret (results_cell_row rfl _ _ (w.heap.size + 1 + 1) 117 C (0, 0) _ rfl (setRow_heap _ _ _ _ _ _ hr) Tryz.underlying117 rfl hi) rfl HE.out

theorem J69 (ov_ : Int) (hov_ : ov_ = 4 \/ ov_ = 6 \/ ov_ = 12) (s : KS) (M : Nat) (a b c n : Int) (w : World) :
  Calls Tryz.prog 76 #[.pointer (some ⟨M, 0, none⟩), .agg #[V ov_, V a, V b, V c, V n], .agg (kv s)] w fun e w' => e = .returned (.agg (kv (s))) /\ More w w' := by
 suffices hP : ∀ P : Ending -> World -> Prop, (∀ w', More w w' -> P (.returned (.agg (kv (s)))) w') -> Calls Tryz.prog 76 #[.pointer (some ⟨M, 0, none⟩), .agg #[V ov_, V a, V b, V c, V n], .agg (kv s)] w P from hP _ (fun w' m => ⟨rfl, m⟩)
 intro P hP0;have HP : Hid (∀ w', More w w' -> P (.returned (.agg (kv (s)))) w') := hP0;clear hP0;obtain ⟨W, HW⟩ : ∃ W : World, Hid (W = ((w.alloc (.cells #[V ov_, V a, V b, V c, V n] 42)).alloc (.cells (kv s) 117)).alloc (.cells #[V 0, .bool false, V 0, .bool false, V 0, .bool false, V 0, .bool false, V 0, .bool false, V 0, .bool false, V 0, .bool false, V 0, .bool false] 117)) := ⟨_, rfl⟩
 have HB : Hid (Blk W w.heap.size #[V ov_, V a, V b, V c, V n] 42 /\ Blk W (w.heap.size + 1) (kv s) 117 /\ Blk W (w.heap.size + 1 + 1) (kv zeroK) 117 /\ More w W) := by
  rw [HW.out];refine ⟨((Blk.last _ _ _).alloc _ _).alloc _ _, (by simpa using Blk.last (w.alloc (.cells #[V ov_, V a, V b, V c, V n] 42)) (kv s) 117 : Blk _ (w.heap.size + 1) _ _).alloc _ _, ?_, (((More.refl _).alloc _ _).alloc _ _).alloc _ _⟩;rw [J2z];exact (by simpa using Blk.last ((w.alloc (.cells #[V ov_, V a, V b, V c, V n] 42)).alloc (.cells (kv s) 117)) #[V 0, .bool false, V 0, .bool false, V 0, .bool false, V 0, .bool false, V 0, .bool false, V 0, .bool false, V 0, .bool false, V 0, .bool false] 117)
 rcases hov_ with rfl | rfl | rfl
 all_goals
  obtain ⟨cs, hcs⟩ : ∃ c, kv s = c := ⟨_, rfl⟩;have hcs16 : cs.size = 16 := hcs ▸ J0e s;rw [hcs] at HW;rw [hcs];clear hcs;obtain ⟨C, hC⟩ : ∃ C, kv (s) = C := ⟨_, rfl⟩
  have HE : Hid (P (.returned (.agg C)) (W.setRow (w.heap.size + 1 + 1) C)) := by
   have := HP.out (W.setRow (w.heap.size + 1 + 1) C) (HB.out.2.2.2.setRow (by omega) C);rw [hC] at this;exact this
  have hb : W.heap[w.heap.size + 1]? = some (.cells C 117 (0, 0)) := by
   have := HB.out.2.1;rw [hC] at this;exact this
  have hr : W.heap[w.heap.size + 1 + 1]? = some (.cells (kv zeroK) 117 (0, 0)) := HB.out.2.2.1;have hi : (Tryz.prog.info? 117).map (·.size) = some C.size := by rw [<- hC]; exact J17 _
  have hold : (kv zeroK).size = C.size := by rw [<- hC, J0e, J0e]
  have hone : C.all (·.oneCell') = true := by rw [<- hC]; exact J2n _
  clear HP;go_enter Tryz.func76, Tryz.ntmps76;go_wp2_with (first | (rw [<- HW.out]; refine wpList_load_row rfl 117 (.tmp 5) rfl (w.heap.size + 1) rfl 117 _ (0, 0) _ hb Tryz.underlying117 rfl hi ?_) | (refine wpList_store_row rfl 117 (.tmp 6) (.tmp 87) rfl (w.heap.size + 1 + 1) _ rfl rfl 117 _ hr hi hold hone ?_))
  exact bodyPost_ret (results_cell_row rfl _ _ (w.heap.size + 1 + 1) 117 C (0, 0) _ rfl (setRow_heap _ _ _ _ _ _ hr) Tryz.underlying117 rfl hi) rfl HE.out

theorem J99 (p : Prg) (s : KS) (M : Nat) (lo : Loc) (i : Ins) (w : World) (hM : w.cell? ⟨M, 0, none⟩ = some (.slice lo.ra p.rl lo.rc)) (hp : PIn w p lo) (hi : InsOk p.rl p.log p.cl 8 i) (hn : -9223372036854775808 <= i.n /\ i.n <= 9223372036854775807)
  (h7 : ¬ i.op = 7) (h8 : ¬ i.op = 8) (h9 : ¬ i.op = 9) :
  Calls Tryz.prog 76 #[.pointer (some ⟨M, 0, none⟩), .agg #[V i.op, V i.a, V i.b, V i.c, V i.n], .agg (kv s)] w fun e w' => e = .returned (.agg (kv (nextK p i s))) /\ More w w' := by
 obtain ⟨op, a, b, c, n⟩ := i;dsimp only at *;unfold InsOk Reg Rgn Plc Wrd at hi;dsimp only at hi;by_cases h1 : op = 1
 ·subst h1
  simp at hi;exact Jgk s M a b c n w (by omega) (by omega)
 by_cases h2 : op = 2
 ·subst h2
  simp at hi;exact Jgl s M a b c n w (by omega) (by omega) (by omega) (by omega)
 by_cases h10 : op = 10
 ·subst h10
  simp at hi;exact Je5 s M a b c n w (by omega) (by omega) (by omega) (by omega) hn.1 hn.2
 by_cases h3 : op = 3
 ·subst h3
  simp at hi;rw [hp.hr (by omega)] at hM;exact J98 3 (by decide) s M a b c n w lo.rb lo.ro p.rl lo.rc p.log p.sec hM hp.regs (by omega) (by omega) (by omega) (by omega)
 by_cases h5 : op = 5
 ·subst h5
  simp at hi;rw [hp.hr (by omega)] at hM;exact J98 5 (by decide) s M a b c n w lo.rb lo.ro p.rl lo.rc p.log p.sec hM hp.regs (by omega) (by omega) (by omega) (by omega)
 by_cases h11 : op = 11
 ·subst h11
  simp at hi;exact Je6 s M a b c n w (by omega) (by omega) (by omega) (by omega)
 by_cases h4 : op = 4
 ·subst h4; exact J69 4 (by decide) s M a b c n w
 by_cases h6 : op = 6
 ·subst h6; exact J69 6 (by decide) s M a b c n w
 by_cases h12 : op = 12
 ·subst h12; exact J69 12 (by decide) s M a b c n w
 ·have e : nextK p ⟨op, a, b, c, n⟩ s = setK s a (Kn.op (op - 20) (s b.toNat) (s c.toNat)) := by
   unfold nextK;dsimp only;rw [if_neg h1, if_neg h2, if_neg h10, if_neg (by omega), if_neg h11, if_neg (by omega)]
  rw [e];simp [h1, h2, h3, h4, h5, h6, h7, h8, h9, h10, h11, h12] at hi;exact Je7 s M op a b c n w (by omega) (by omega) (by omega) (by omega) (by omega) (by omega) (by omega) (by omega)
def ComeL (p : Prg) : List (Nat × KS) -> KV -> List Nat -> KV -> List Nat -> Prop
 | [], l, td, l', td' => l' = l /\ td' = td
 | x :: R, l, td, l', td' => ∃ l1 td1, ComeK p l td x l1 td1 /\ ComeL p R l1 td1 l' td'
theorem ComeK.len {p : Prg} {l l' : KV} {td td' : List Nat} {x : Nat × KS} (h : ComeK p l td x l' td') : td'.length <= td.length + 1 := by
 rcases h with ⟨_, _, rfl⟩ | ⟨_, _, _, rfl⟩ | ⟨_, _, _, rfl⟩
 ·omega
 ·omega
 ·simp

theorem Jjm : (Tryz.prog.info? 42).map (·.size) = some 5 := by kernel_rfl
theorem Jmv (i : Ins) (s : KS) (h : i.c = 1 \/ i.c = 2 \/ i.c = 3 \/ i.c = 4) : whK i.c i.a i.b s = yesK i s := by
 unfold whK yesK bothK J1g J11;rcases h with h | h | h | h <;> simp [h]
theorem no_wh (i : Ins) (s : KS) (h : i.c = 1 \/ i.c = 2 \/ i.c = 3 \/ i.c = 4) : whK (oppI i.c) i.a i.b s = noK i s := by
 unfold whK noK bothK J1g J11 oppI;rcases h with h | h | h | h <;> simp [h]
theorem Jmn (c : Int) (h : c = 1 \/ c = 2 \/ c = 3 \/ c = 4) : oppI c = 1 \/ oppI c = 2 \/ oppI c = 3 \/ oppI c = 4 := by
 unfold oppI;rcases h with h | h | h | h <;> simp [h]

structure LdB (w : World) (g4 g5 : Nat) (w' : World) : Prop where
 b4 : Blk w' g4 #[V 0, V 0, V 0, V 0, V 0] 42
 b5 : Blk w' g5 (kv zeroK) 117
 up : More w w'
 lt4 : w.heap.size <= g4
 lt5 : w.heap.size <= g5
 ne : g4 ≠ g5
structure LdF (g4 g5 : Nat) (i : Ins) (s : KS) (w' : World) : Prop where
 b4 : Blk w' g4 #[V i.op, V i.a, V i.b, V i.c, V i.n] 42
 b5 : Blk w' g5 (kv s) 117
theorem LdF.keeps {g4 g5 : Nat} {i : Ins} {s : KS} {w w' : World} (h : LdF g4 g5 i s w) (k : Keeps w w') : LdF g4 g5 i s w' := ⟨k _ _ _ (by decide) (by decide) (by decide) h.b4, k _ _ _ (by decide) (by decide) (by decide) h.b5⟩
theorem LdF.more {g4 g5 : Nat} {i : Ins} {s : KS} {w w' : World} (h : LdF g4 g5 i s w) (k : More w w') : LdF g4 g5 i s w' := h.keeps (Keeps.of k)

theorem Jho {w0 : World} {p : Prg} {lo : Loc} {M B : Nat} {l : KV} {td : List Nat} {tv : Value} {w : World} (h : Ck w0 p lo M B l td tv w) (hcl : p.cl <= 200) (hn : td.length <= 99990) (at_ : Nat) (hat : at_ < p.cl) (s : KS) (hl : l at_ = some s) (op a b c n : Int) (hin : p.ins at_ = ⟨op, a, b, c, n⟩) (hok : InsOk p.rl p.log p.cl 8 ⟨op, a, b, c, n⟩) (n0 : -9223372036854775808 <= n) (n1 : n <= 9223372036854775807) :
  Calls Tryz.prog 50 #[.pointer (some ⟨M, 0, none⟩), V at_] w fun e w' => e = .returned (.tuple #[]) /\ Keeps w w' /\ ∃ l' td' tv', ComeL p (J0f p at_ s) l td l' td' /\ Ck w0 p lo M B l' td' tv' w' := by
 suffices hP : ∀ P : Ending -> World -> Prop, (∀ l' td' tv' w', ComeL p (J0f p at_ s) l td l' td' -> Ck w0 p lo M B l' td' tv' w' -> Keeps w w' -> P (.returned (.tuple #[])) w') -> Calls Tryz.prog 50 #[.pointer (some ⟨M, 0, none⟩), V at_] w P from hP _ (fun l' td' tv' w' a b c => ⟨rfl, c, l', td', tv', a, b⟩)
 intro P hP0;have HP : Hid (∀ l' td' tv' w', ComeL p (J0f p at_ s) l td l' td' -> Ck w0 p lo M B l' td' tv' w' -> Keeps w w' -> P (.returned (.tuple #[])) w') := hP0;clear hP0;have Hck : Hid (Ck w0 p lo M B l td tv w) := h;have m1 : w.cell? ⟨M, 1, none⟩ = some (.slice lo.ca p.cl lo.cc) := h.box.cell (j := 1) rfl;have m2 : w.cell? ⟨M, 2, none⟩ = some (.slice (some ⟨B, 0, none⟩) p.cl p.cl) := h.box.cell (j := 2) rfl;rw [h.pin.hc (by omega)] at m1;have hcode := h.pinw.code at_ hat;rw [hin] at hcode;dsimp only at hcode;obtain ⟨q0, q1, q2, q3, q4⟩ := hcode;have Hpl : Hid (∀ w', More w w' -> ∀ j v, (kv s)[j]? = some v -> w'.cell? ⟨B, at_ * 17 + j, none⟩ = some v) := fun w' m => (h.more m).pl.regs hat hl
 have HN : Hid (td.length <= 99990 /\ p.cl <= 200 /\ at_ < p.cl /\ p.ins at_ = ⟨op, a, b, c, n⟩) := ⟨hn, hcl, hat, hin⟩;have hiC := J17 s;have hone : (kv s).all (·.oneCell') = true := J2n s;have hz16 : (kv zeroK).size = (kv s).size := by rw [J0e, J0e]
 clear h hn hl hin;have Hok : Hid (InsOk p.rl p.log p.cl 8 ⟨op, a, b, c, n⟩) := hok;clear hok;obtain ⟨C, hC⟩ : ∃ c, kv s = c := ⟨_, rfl⟩;have HC : Hid (kv s = C) := hC;rw [hC] at Hpl hiC hone hz16;clear hC;obtain ⟨cl, Hcl⟩ : ∃ x, Hid (p.cl = x) := ⟨_, rfl⟩;rw [Hcl.out] at m1 m2 hat hcl;have hi1 : ((at_ : Int) < cl) := by omega
 have hi2 : ((cl : Int) <= 200) := by omega
 obtain ⟨cb, Hcb⟩ : ∃ x, Hid (lo.cb = x) := ⟨_, rfl⟩;obtain ⟨co, Hco⟩ : ∃ x, Hid (lo.co = x) := ⟨_, rfl⟩;obtain ⟨cc, Hcc⟩ : ∃ x, Hid (lo.cc = x) := ⟨_, rfl⟩;rw [Hcb.out, Hco.out] at m1 q0 q1 q2 q3 q4;rw [Hcc.out] at m1;obtain ⟨S, HS⟩ : ∃ S : World -> Prop, Hid (∀ w', S w' ↔ More w w') := ⟨_, fun _ => Iff.rfl⟩;have HS0 : S w.drew := (HS.out _).2 (More.refl _).drew;have hne : Nonempty { w' // S w' } := ⟨⟨_, HS0⟩⟩;have k1 : ∀ i : { w' // S w' }, i.val.cell? ⟨M, 1, none⟩ = some (.slice (some ⟨cb, co, none⟩) cl cc) := fun i => ((HS.out _).1 i.property).cell m1
 have k2 : ∀ i : { w' // S w' }, i.val.cell? ⟨M, 2, none⟩ = some (.slice (some ⟨B, 0, none⟩) cl cl) := fun i => ((HS.out _).1 i.property).cell m2
 have j0 : ∀ i : { w' // S w' }, i.val.cell? ⟨cb, co + at_ * 5, none⟩ = some (V op) := fun i => ((HS.out _).1 i.property).cell q0
 have j1 : ∀ i : { w' // S w' }, i.val.cell? ⟨cb, co + at_ * 5 + 1, none⟩ = some (V a) := fun i => ((HS.out _).1 i.property).cell q1
 have j2 : ∀ i : { w' // S w' }, i.val.cell? ⟨cb, co + at_ * 5 + 2, none⟩ = some (V b) := fun i => ((HS.out _).1 i.property).cell q2
 have j3 : ∀ i : { w' // S w' }, i.val.cell? ⟨cb, co + at_ * 5 + 3, none⟩ = some (V c) := fun i => ((HS.out _).1 i.property).cell q3
 have j4 : ∀ i : { w' // S w' }, i.val.cell? ⟨cb, co + at_ * 5 + 4, none⟩ = some (V n) := fun i => ((HS.out _).1 i.property).cell q4
 clear m1 m2 q0 q1 q2 q3 q4;go_enter Tryz.func50, Tryz.ntmps50;go_wp2_with (fail)
 refine J1m (S := S) (by kernel_rfl) HS0 ?_;refine J08 0 rfl (by kernel_rfl) HS0 (by kernel_rfl) (fun K hK => ?_); go_simp; refine hK _ _ ?_; clear hK K;refine J08 1 rfl (by kernel_rfl) HS0 (by kernel_rfl) (fun K hK => ?_); go_simp; refine hK _ _ ?_; clear hK K;refine J08 2 rfl (by kernel_rfl) HS0 (by kernel_rfl) (fun K hK => ?_); go_simp; refine hK _ _ ?_; clear hK K;refine J08 3 rfl (by kernel_rfl) HS0 (by kernel_rfl) (fun K hK => ?_); go_simp; refine hK _ _ ?_; clear hK K;refine J08 4 rfl (by kernel_rfl) HS0 (by kernel_rfl) (fun K hK => ?_); go_simp; refine hK _ _ ?_; clear hK K;refine J08 5 rfl (by kernel_rfl) HS0 (by kernel_rfl) (fun K hK => ?_); go_simp; refine hK _ _ ?_; clear hK K;refine J08 6 rfl (by kernel_rfl) HS0 (by kernel_rfl) (fun K hK => ?_); go_simp; refine hK _ _ ?_; clear hK K;refine J08 7 rfl (by kernel_rfl) HS0 (by kernel_rfl) (fun K hK => ?_); go_simp; refine hK _ _ ?_; clear hK K;refine J08 8 rfl (by kernel_rfl) HS0 (by kernel_rfl) (fun K hK => ?_); go_simp; refine hK _ _ ?_; clear hK K;refine J08 9 rfl (by kernel_rfl) HS0 (by kernel_rfl) (fun K hK => ?_); go_simp; refine hK _ _ ?_; clear hK K;refine J08 10 rfl (by kernel_rfl) HS0 (by kernel_rfl) (fun K hK => ?_); go_simp; refine hK _ _ ?_; clear hK K;refine J08 11 rfl (by kernel_rfl) HS0 (by kernel_rfl) (fun K hK => ?_); go_simp; refine hK _ _ ?_; clear hK K;refine J08 12 rfl (by kernel_rfl) HS0 (by kernel_rfl) (fun K hK => ?_); go_simp; refine hK _ _ ?_; clear hK K
 refine J08 13 rfl (by kernel_rfl) HS0 (by kernel_rfl) (fun K hK => ?_); go_simp; refine hK _ _ ?_; clear hK K;refine J08 14 rfl (by kernel_rfl) HS0 (by kernel_rfl) (fun K hK => ?_); go_simp; refine hK _ _ ?_; clear hK K;refine J08 15 rfl (by kernel_rfl) HS0 (by kernel_rfl) (fun K hK => ⟨.agg C, fun i => J12 117 (.tmp 20) rfl B (at_ * 17) rfl C _ (Hpl.out _ ((HS.out _).1 i.property)) Tryz.underlying117 rfl hiC, ?_⟩); go_simp; refine hK _ _ ?_; clear hK K;obtain ⟨wd, Hwd⟩ : ∃ wd : World, Hid (wd = w.drew) := ⟨_, rfl⟩;have Hmwd : Hid (More w wd) := Hwd.out ▸ (More.refl w).drew;rw [<- Hwd.out];clear k1 k2 j0 j1 j2 j3 j4;apply Jc8
 ·intro key
  refine J3o 16 17 (by kernel_rfl) ?_ ?_
  ·refine J0a rfl (by kernel_rfl) (fun K hK => ?_); go_simp
   obtain ⟨w1, Hw1⟩ : ∃ w_ : World, Hid (w_ = wd.alloc (.cells #[V 0, V 0, V 0, V 0, V 0] 42)) := ⟨_, rfl⟩;have m1 : More wd w1 := Hw1.out ▸ (More.refl _).alloc _ _;have Hm1 : Hid (More w w1) := Hmwd.out.trans m1;have Hb1 : Hid (Blk w1 wd.heap.size #[V 0, V 0, V 0, V 0, V 0] 42) := Hw1.out ▸ Blk.last _ _ _;rw [<- Hw1.out];clear m1 Hw1;refine hK _ _ ((HS.out _).2 Hm1.out) ?_; clear hK K;refine J0x 17 (by kernel_rfl) ?_;refine J0a rfl (by kernel_rfl) (fun K hK => ?_); go_simp;obtain ⟨w2, Hw2⟩ : ∃ w_ : World, Hid (w_ = w1.alloc (.cells #[V 0, .bool false, V 0, .bool false, V 0, .bool false, V 0, .bool false, V 0, .bool false, V 0, .bool false, V 0, .bool false, V 0, .bool false] 117)) := ⟨_, rfl⟩;have m2 : More w1 w2 := Hw2.out ▸ (More.refl _).alloc _ _;have Hm2 : Hid (More w w2) := Hm1.out.trans m2;have Hb2 : Hid (Blk w2 w1.heap.size #[V 0, .bool false, V 0, .bool false, V 0, .bool false, V 0, .bool false, V 0, .bool false, V 0, .bool false, V 0, .bool false, V 0, .bool false] 117) := Hw2.out ▸ Blk.last _ _ _;have Hb1' : Hid (Blk w2 wd.heap.size #[V 0, V 0, V 0, V 0, V 0] 42) := Hb1.out.more m2;rw [<- Hw2.out];clear m2 Hw2;refine hK _ _ ((HS.out _).2 Hm2.out) ?_; clear hK K;have F : Hid (LdB w (wd.heap.size) (w1.heap.size) w2) := ⟨Hb1'.out, Hb2.out, Hm2.out, Hmwd.out.size, Hm1.out.size, Nat.ne_of_lt Hb1.out.lt⟩
   refine J1p (listed' := #[true, true, true, true, true, true, true, true, true, true, true, true, true, true, true, true, true, true, false, false]) (by kernel_rfl) ?_;clear Hb1 Hb2 Hb1' Hm2 Hm1;generalize w1.heap.size = g5 at F |-;generalize wd.heap.size = g4 at F |-;clear w1
   revert w2 g5 g4
   exact key
  ·refine J0a rfl (by kernel_rfl) (fun K hK => ?_); go_simp
   obtain ⟨w1, Hw1⟩ : ∃ w_ : World, Hid (w_ = wd.alloc (.cells #[V 0, .bool false, V 0, .bool false, V 0, .bool false, V 0, .bool false, V 0, .bool false, V 0, .bool false, V 0, .bool false, V 0, .bool false] 117)) := ⟨_, rfl⟩;have m1 : More wd w1 := Hw1.out ▸ (More.refl _).alloc _ _;have Hm1 : Hid (More w w1) := Hmwd.out.trans m1;have Hb1 : Hid (Blk w1 wd.heap.size #[V 0, .bool false, V 0, .bool false, V 0, .bool false, V 0, .bool false, V 0, .bool false, V 0, .bool false, V 0, .bool false, V 0, .bool false] 117) := Hw1.out ▸ Blk.last _ _ _;rw [<- Hw1.out];clear m1 Hw1;refine hK _ _ ((HS.out _).2 Hm1.out) ?_; clear hK K;refine J0x 16 (by kernel_rfl) ?_;refine J0a rfl (by kernel_rfl) (fun K hK => ?_); go_simp;obtain ⟨w2, Hw2⟩ : ∃ w_ : World, Hid (w_ = w1.alloc (.cells #[V 0, V 0, V 0, V 0, V 0] 42)) := ⟨_, rfl⟩;have m2 : More w1 w2 := Hw2.out ▸ (More.refl _).alloc _ _;have Hm2 : Hid (More w w2) := Hm1.out.trans m2;have Hb2 : Hid (Blk w2 w1.heap.size #[V 0, V 0, V 0, V 0, V 0] 42) := Hw2.out ▸ Blk.last _ _ _;have Hb1' : Hid (Blk w2 wd.heap.size #[V 0, .bool false, V 0, .bool false, V 0, .bool false, V 0, .bool false, V 0, .bool false, V 0, .bool false, V 0, .bool false, V 0, .bool false] 117) := Hb1.out.more m2;rw [<- Hw2.out];clear m2 Hw2;refine hK _ _ ((HS.out _).2 Hm2.out) ?_; clear hK K;have F : Hid (LdB w (w1.heap.size) (wd.heap.size) w2) := ⟨Hb2.out, Hb1'.out, Hm2.out, Hm1.out.size, Hmwd.out.size, Nat.ne_of_gt Hb1.out.lt⟩
   refine J1p (listed' := #[true, true, true, true, true, true, true, true, true, true, true, true, true, true, true, true, true, true, false, false]) (by kernel_rfl) ?_;exact key _ _ _ F
 ·intro w1 g5 g4 F
  obtain ⟨w2, Hw2⟩ : ∃ w_ : World, Hid (w_ = w1.setRow g4 #[V op, V a, V b, V c, V n]) := ⟨_, rfl⟩;obtain ⟨w3, Hw3⟩ : ∃ w_ : World, Hid (w_ = w2.setRow g5 C) := ⟨_, rfl⟩
  have F2 : Hid (Blk w2 g4 #[V op, V a, V b, V c, V n] 42 /\ Blk w2 g5 (kv zeroK) 117 /\ More w w2) := by
   rw [Hw2.out];exact ⟨F.out.b4.setRow _, F.out.b5.setRow_other F.out.ne.symm _, F.out.up.setRow F.out.lt4 _⟩
  have F3 : Hid (LdF g4 g5 ⟨op, a, b, c, n⟩ s w3 /\ More w w3) := by
   rw [Hw3.out];refine ⟨⟨F2.out.1.setRow_other F.out.ne _, ?_⟩, F2.out.2.2.setRow F.out.lt5 _⟩;rw [HC.out];exact F2.out.2.1.setRow _
  refine J0x 18 (by kernel_rfl) ?_;refine J0a rfl (by kernel_rfl) (fun K hK => ?_);refine wp_store_row 42 (.tmp 4) (.tmp 13) rfl g4 #[V op, V a, V b, V c, V n] rfl rfl 42 #[V 0, V 0, V 0, V 0, V 0] F.out.b4 Jjm rfl (by simp [Value.oneCell']) ?_;rw [<- Hw2.out];refine hK _ _ ((HS.out _).2 F2.out.2.2) ?_; clear hK K;refine J0x 19 (by kernel_rfl) ?_;refine J0a rfl (by kernel_rfl) (fun K hK => ?_);refine wp_store_row 117 (.tmp 5) (.tmp 21) rfl g5 C rfl rfl 117 _ F2.out.2.1 hiC hz16 hone ?_;rw [<- Hw3.out];refine hK _ _ ((HS.out _).2 F3.out.2) ?_; clear hK K;refine J3y (by kernel_rfl) ?_;clear hne HS0;have i0 : w3.cell? ⟨g4, 0, none⟩ = some (V op) := F3.out.1.b4.cell rfl;have i1 : w3.cell? ⟨g4, 1, none⟩ = some (V a) := F3.out.1.b4.cell rfl;have i2 : w3.cell? ⟨g4, 2, none⟩ = some (V b) := F3.out.1.b4.cell rfl;have i3 : w3.cell? ⟨g4, 3, none⟩ = some (V c) := F3.out.1.b4.cell rfl;have i4 : w3.cell? ⟨g4, 4, none⟩ = some (V n) := F3.out.1.b4.cell rfl;have Hck3 : Hid (Ck w0 p lo M B l td tv w3) := Hck.out.more F3.out.2
  have hb5 : w3.heap[g5]? = some (.cells C 117 (0, 0)) := by
   have := F3.out.1.b5;rw [HC.out] at this;exact this
  by_cases h9 : op = 9
  ·subst h9
   have hL : J0f p at_ s = [] := by unfold J0f; rw [HN.out.2.2.2]; simp
   have Hend : Hid (P (.returned (.tuple #[])) w3) := by
    refine HP.out l td tv w3 ?_ Hck3.out (Keeps.of F3.out.2);rw [hL];exact ⟨rfl, rfl⟩
   clear hL HP;go_wp2;go_end0;exact Hend.out
  by_cases h7 : op = 7
  ·subst h7
   have hpl := Hok.out;unfold InsOk Plc at hpl;simp at hpl;obtain ⟨nn, rfl⟩ : ∃ nn : Nat, n = nn := ⟨n.toNat, by omega⟩;have hL : J0f p at_ s = [(nn, s)] := by unfold J0f; rw [HN.out.2.2.2]; simp
   have Hend : Hid (∀ l' td' tv' w', ComeK p l td (nn, s) l' td' -> Ck w0 p lo M B l' td' tv' w' -> Keeps w w' -> P (.returned (.tuple #[])) w') := by
    intro l' td' tv' w' h1 h2 h3;refine HP.out l' td' tv' w' ?_ h2 h3;rw [hL];exact ⟨l', td', h1, rfl, rfl⟩
   have cc : Calls Tryz.prog 49 #[.pointer (some ⟨M, 0, none⟩), V (nn : Int), .agg C] w3 fun e w' => e = .returned (.tuple #[]) /\ Keeps w3 w' /\ ∃ l' td' tv', ComeK p l td (nn, s) l' td' /\ Ck w0 p lo M B l' td' tv' w' := by
    have := J35 Hck3.out HN.out.2.1 (Nat.le_trans HN.out.1 (by omega)) (nn, s);rw [HC.out] at this;exact this
   clear hL HP hpl;go_wp2_with (first | (refine wpList_load_row rfl 117 (.tmp 5) rfl g5 rfl 117 C (0, 0) _ hb5 Tryz.underlying117 rfl hiC ?_))
   refine cc.mono ?_;rintro e w4 ⟨rfl, kp4, l', td', tv', h1, h2⟩;have Hf : Hid (P (.returned (.tuple #[])) w4) := Hend.out _ _ _ _ h1 h2 ((Keeps.of F3.out.2).trans kp4);clear kp4 h1 h2 cc Hend;go_wp2;go_end0;exact Hf.out
  by_cases h8 : op = 8
  ·subst h8
   have hpl := Hok.out;unfold InsOk Plc Reg at hpl;simp at hpl;have ha0 : 0 <= a := by omega
   have ha1 : a < 8 := by omega
   have hb0 : 0 <= b := by omega
   have hb1 : b < 8 := by omega
   have hc4 : c = 1 \/ c = 2 \/ c = 3 \/ c = 4 := by omega
   obtain ⟨nn, rfl⟩ : ∃ nn : Nat, n = nn := ⟨n.toNat, by omega⟩;obtain ⟨y, hy⟩ : ∃ y, yesK ⟨8, a, b, c, nn⟩ s = y := ⟨_, rfl⟩;obtain ⟨z, hz⟩ : ∃ z, noK ⟨8, a, b, c, nn⟩ s = z := ⟨_, rfl⟩;have hL : J0f p at_ s = [(nn, y), (at_ + 1, z)] := by unfold J0f; rw [HN.out.2.2.2, hy, hz]; simp
   have c1 : ∀ w : World, Calls Tryz.prog 74 #[.agg (kv s), V c, V a, V b] w fun e w' => e = .returned (.agg (kv y)) /\ More w w' := fun w => by
    have := J7f s c a b w hc4 ha0 ha1 hb0 hb1;rw [Jmv ⟨8, a, b, c, nn⟩ s hc4, hy] at this;exact this
   obtain ⟨oc, hoc⟩ : ∃ x, oppI c = x := ⟨_, rfl⟩;have c3 : ∀ w : World, Calls Tryz.prog 75 #[V c] w fun e w' => e = .returned (V oc) /\ w' = w := fun w => hoc ▸ J7m c w
   have c2 : ∀ w : World, Calls Tryz.prog 74 #[.agg (kv s), V oc, V a, V b] w fun e w' => e = .returned (.agg (kv z)) /\ More w w' := fun w => by
    have := J7f s (oppI c) a b w (Jmn c hc4) ha0 ha1 hb0 hb1;rw [no_wh ⟨8, a, b, c, nn⟩ s hc4, hz, hoc] at this;exact this
   have Hend : Hid (∀ l1 td1 l' td' tv' w', ComeK p l td (nn, y) l1 td1 -> ComeK p l1 td1 (at_ + 1, z) l' td' -> Ck w0 p lo M B l' td' tv' w' -> Keeps w w' -> P (.returned (.tuple #[])) w') := by
    intro l1 td1 l' td' tv' w' h1 h1' h2 h3;refine HP.out l' td' tv' w' ?_ h2 h3;rw [hL];exact ⟨l1, td1, h1, l', td', h1', rfl, rfl⟩
   rw [HC.out] at c1 c2;obtain ⟨Y, hY⟩ : ∃ x, kv y = x := ⟨_, rfl⟩;obtain ⟨X, hX⟩ : ∃ x, kv z = x := ⟨_, rfl⟩;have HYX : Hid (kv y = Y /\ kv z = X) := ⟨hY, hX⟩;rw [hY] at c1;rw [hX] at c2;clear hL HP hpl hy hz hoc hc4 hY hX;obtain ⟨T, HT⟩ : ∃ T : World -> Prop, Hid (∀ w', T w' ↔ LdF g4 g5 ⟨8, a, b, c, nn⟩ s w') := ⟨_, fun _ => Iff.rfl⟩;have HT0 : T w3.drew := (HT.out _).2 (F3.out.1.more (More.refl _).drew);have hne : Nonempty { w' // T w' } := ⟨⟨_, HT0⟩⟩;have k1 : ∀ i : { w' // T w' }, i.val.cell? ⟨g4, 1, none⟩ = some (V a) := fun i => ((HT.out _).1 i.property).b4.cell rfl
   have k2 : ∀ i : { w' // T w' }, i.val.cell? ⟨g4, 2, none⟩ = some (V b) := fun i => ((HT.out _).1 i.property).b4.cell rfl
   have k3 : ∀ i : { w' // T w' }, i.val.cell? ⟨g4, 3, none⟩ = some (V c) := fun i => ((HT.out _).1 i.property).b4.cell rfl
   have k4 : ∀ i : { w' // T w' }, i.val.cell? ⟨g4, 4, none⟩ = some (V (nn : Int)) := fun i => ((HT.out _).1 i.property).b4.cell rfl
   have Hk5 : Hid (∀ i : { w' // T w' }, ∀ j v, C[j]? = some v -> i.val.cell? ⟨g5, 0 + j, none⟩ = some v) := fun i j v e => by
    rw [Nat.zero_add];have hb := ((HT.out _).1 i.property).b5;rw [HC.out] at hb;exact hb.cell e
   have hat63 : wrap64 ((at_ : Int) + 1) = (at_ : Int) + 1 := by unfold wrap64; omega
   have hat64 : IntKind.i64.wrap ((at_ : Int) + 1) = (at_ : Int) + 1 := by rw [IntKind.wrap_i64]; omega
   go_wp2_with (fail)
   refine J03 (S := T) [(0, true), (1, true), (2, true), (3, true), (4, true), (5, true), (6, true), (7, true), (8, true), (9, true), (10, false), (11, false)] (by kernel_rfl) (by kernel_rfl) (by kernel_rfl) HT0 ?_
   iterate 3 (refine J00 rfl (by kernel_rfl) (fun K hK => ?_); go_simp; refine hK _ _ ?_; clear hK K)
   refine J00 rfl (by kernel_rfl) (fun K hK => ⟨.agg C, fun i => J12 117 (.tmp 5) rfl g5 0 rfl C _ (Hk5.out i) Tryz.underlying117 rfl hiC, ?_⟩); go_simp; refine hK _ _ ?_; clear hK K
   iterate 6 (refine J00 rfl (by kernel_rfl) (fun K hK => ?_); go_simp; refine hK _ _ ?_; clear hK K)
   refine J02 rfl (by kernel_rfl) (fun K hK => ?_); go_simp;refine (c1 _).mono ?_;rintro e w4 ⟨rfl, m_⟩;have Hm4 : Hid (More w3 w4) := (More.refl w3).drew.trans m_;clear m_
   go_simp
   refine hK _ _ ((HT.out _).2 (F3.out.1.more Hm4.out)) ?_; clear hK K
   have cc : Calls Tryz.prog 49 #[.pointer (some ⟨M, 0, none⟩), V (nn : Int), .agg Y] w4 fun e w' => e = .returned (.tuple #[]) /\ Keeps w4 w' /\ ∃ l' td' tv', ComeK p l td (nn, y) l' td' /\ Ck w0 p lo M B l' td' tv' w' := by
    have := J35 (Hck3.out.more Hm4.out) HN.out.2.1 (Nat.le_trans HN.out.1 (by omega)) (nn, y);rw [HYX.out.1] at this;exact this
   refine J02 rfl (by kernel_rfl) (fun K hK => ?_); go_simp;refine cc.mono ?_;rintro e w5 ⟨rfl, kp5, l1, td1, tv1, g1, g2⟩;have Hkp5 : Hid (Keeps w w5) := ((Keeps.of F3.out.2).trans (Keeps.of Hm4.out)).trans kp5;have HF5 : Hid (LdF g4 g5 ⟨8, a, b, c, nn⟩ s w5) := (F3.out.1.more Hm4.out).keeps kp5;have Hc1 : Hid (ComeK p l td (nn, y) l1 td1) := g1;have Hck5 : Hid (Ck w0 p lo M B l1 td1 tv1 w5) := g2;clear g1 g2 kp5 cc
   go_simp
   refine hK _ _ ((HT.out _).2 HF5.out) ?_; clear hK K;refine J04 ?_;clear i0 i1 i2 i3 i4 c1 HT0;have HT0 : T w5.drew := (HT.out _).2 (HF5.out.more (More.refl _).drew);go_wp2_with (fail)
   refine J03 (S := T) [(0, true), (1, true), (2, true), (3, true), (4, true), (5, true), (7, true), (8, true), (9, true), (10, true), (6, false), (11, false), (12, false)] (by kernel_rfl) (by kernel_rfl) (by kernel_rfl) HT0 ?_
   iterate 3 (refine J00 rfl (by kernel_rfl) (fun K hK => ?_); go_simp; refine hK _ _ ?_; clear hK K)
   refine J00 rfl (by kernel_rfl) (fun K hK => ⟨.agg C, fun i => J12 117 (.tmp 5) rfl g5 0 rfl C _ (Hk5.out i) Tryz.underlying117 rfl hiC, ?_⟩); go_simp; refine hK _ _ ?_; clear hK K
   iterate 6 (refine J00 rfl (by kernel_rfl) (fun K hK => ?_); go_simp; refine hK _ _ ?_; clear hK K)
   refine J02 rfl (by kernel_rfl) (fun K hK => ?_); go_simp;refine (c3 _).mono ?_;rintro e w6 ⟨rfl, rfl⟩
   go_simp
   refine hK _ _ HT0 ?_; clear hK K;refine J02 rfl (by kernel_rfl) (fun K hK => ?_); go_simp;refine (c2 _).mono ?_;rintro e w7 ⟨rfl, m_⟩;have Hm7 : Hid (More w5 w7) := (More.refl w5).drew.trans m_;clear m_
   go_simp
   refine hK _ _ ((HT.out _).2 (HF5.out.more Hm7.out)) ?_; clear hK K
   have cc : Calls Tryz.prog 49 #[.pointer (some ⟨M, 0, none⟩), V ((at_ : Int) + 1), .agg X] w7 fun e w' => e = .returned (.tuple #[]) /\ Keeps w7 w' /\ ∃ l' td' tv', ComeK p l1 td1 (at_ + 1, z) l' td' /\ Ck w0 p lo M B l' td' tv' w' := by
    have := J35 (Hck5.out.more Hm7.out) HN.out.2.1 (by have := Hc1.out.len; have := HN.out.1; omega) (at_ + 1, z);rw [HYX.out.2] at this;exact this
   refine J02 rfl (by kernel_rfl) (fun K hK => ?_); go_simp
   try rw [hat64]
   refine cc.mono ?_;rintro e w8 ⟨rfl, kp8, l2, td2, tv2, g1, g2⟩;have Hf : Hid (P (.returned (.tuple #[])) w8) := Hend.out _ _ _ _ _ _ Hc1.out g1 g2 ((Hkp5.out.trans (Keeps.of Hm7.out)).trans kp8);have HF8 : Hid (LdF g4 g5 ⟨8, a, b, c, nn⟩ s w8) := (HF5.out.more Hm7.out).keeps kp8;clear g1 g2 kp8 cc
   go_simp
   refine hK _ _ ((HT.out _).2 HF8.out) ?_; clear hK K;refine J04 ?_;clear c2 c3 HT0 hne k1 k2 k3 k4 Hend;go_wp2;go_end0;exact Hf.out
  ·have e9 : (op == 9) = false := by simp [h9]
   have e7 : (op == 7) = false := by simp [h7]
   have e8 : (op == 8) = false := by simp [h8]
   obtain ⟨x, hx⟩ : ∃ x, nextK p ⟨op, a, b, c, n⟩ s = x := ⟨_, rfl⟩;have hL : J0f p at_ s = [(at_ + 1, x)] := by unfold J0f; rw [HN.out.2.2.2]; dsimp only; rw [if_neg h7, if_neg h9, if_neg h8, hx]
   have c1 : Calls Tryz.prog 76 #[.pointer (some ⟨M, 0, none⟩), .agg #[V op, V a, V b, V c, V n], .agg (kv s)] w3 fun e w' => e = .returned (.agg (kv x)) /\ More w3 w' := by
    have := J99 p s M lo ⟨op, a, b, c, n⟩ w3 (Hck3.out.box.cell (j := 0) rfl) Hck3.out.pinw Hok.out ⟨n0, n1⟩ h7 h8 h9;rw [hx] at this;exact this
   have Hend : Hid (∀ l' td' tv' w', ComeK p l td (at_ + 1, x) l' td' -> Ck w0 p lo M B l' td' tv' w' -> Keeps w w' -> P (.returned (.tuple #[])) w') := by
    intro l' td' tv' w' h1 h2 h3;refine HP.out l' td' tv' w' ?_ h2 h3;rw [hL];exact ⟨l', td', h1, rfl, rfl⟩
   obtain ⟨X, hX⟩ : ∃ y, kv x = y := ⟨_, rfl⟩;have HX : Hid (kv x = X) := hX;rw [HC.out, hX] at c1;have hat63 : wrap64 ((at_ : Int) + 1) = (at_ : Int) + 1 := by unfold wrap64; omega
   clear hL HP hx hX h7 h8 h9;go_wp2_with (first | (refine wpList_load_row rfl 117 (.tmp 5) rfl g5 rfl 117 C (0, 0) _ hb5 Tryz.underlying117 rfl hiC ?_))
   refine c1.mono ?_;rintro e w4 ⟨rfl, m_⟩;have Hm4 : Hid (More w3 w4) := m_;clear m_
   have cc : Calls Tryz.prog 49 #[.pointer (some ⟨M, 0, none⟩), V ((at_ : Int) + 1), .agg X] w4 fun e w' => e = .returned (.tuple #[]) /\ Keeps w4 w' /\ ∃ l' td' tv', ComeK p l td (at_ + 1, x) l' td' /\ Ck w0 p lo M B l' td' tv' w' := by
    have := J35 (Hck3.out.more Hm4.out) HN.out.2.1 (Nat.le_trans HN.out.1 (by omega)) (at_ + 1, x);rw [HX.out] at this;exact this
   go_wp2_with (fail)
   refine cc.mono ?_;rintro e w5 ⟨rfl, kp5, l', td', tv', h1, h2⟩;have Hf : Hid (P (.returned (.tuple #[])) w5) := Hend.out _ _ _ _ h1 h2 (((Keeps.of F3.out.2).trans (Keeps.of Hm4.out)).trans kp5);clear kp5 h1 h2 cc Hend c1;go_wp2;go_end0;exact Hf.out

theorem Jdi {w0 : World} {p : Prg} {lo : Loc} {M B : Nat} {l : KV} {td : List Nat} {tv : Value} {w : World} (h : Ck w0 p lo M B l td tv w) (hp : p.Ok 200 8) (hnr : ∀ i, i < p.cl -> -9223372036854775808 <= (p.ins i).n /\ (p.ins i).n <= 9223372036854775807) (hn : td.length <= 99990) (at_ : Nat) (hat : at_ < p.cl) (s : KS) (hl : l at_ = some s) :
  Calls Tryz.prog 50 #[.pointer (some ⟨M, 0, none⟩), V at_] w fun e w' => e = .returned (.tuple #[]) /\ Keeps w w' /\ ∃ l' td' tv', ComeL p (J0f p at_ s) l td l' td' /\ Ck w0 p lo M B l' td' tv' w' := by
 have hr := hnr at_ hat;have hi := hp.2.2.2 at_ hat;obtain ⟨i, hin⟩ : ∃ i, p.ins at_ = i := ⟨_, rfl⟩;obtain ⟨op, a, b, c, n⟩ := i;rw [hin] at hr hi;exact Jho h hp.2.2.1 hn at_ hat s hl op a b c n hin hi hr.1 hr.2
theorem ComeL.todo {p : Prg} {a : Nat} : ∀ (R : List (Nat × KS)) {l l' : KV} {td td' : List Nat}, Todo p l td a R -> ComeL p R l td l' td' -> Todo p l' td' a [] /\ rankV l p.cl <= rankV l' p.cl /\ td'.length + rankV l p.cl <= td.length + rankV l' p.cl
 | [], l, l', td, td', h, ⟨h1, h2⟩ => by subst h1; subst h2; exact ⟨h, Nat.le_refl _, Nat.le_refl _⟩
 | x :: R, l, l', td, td', h, ⟨l1, td1, h1, h2⟩ => by
  obtain ⟨k1, k2, k3, _⟩ := h.next h1;obtain ⟨j1, j2, j3⟩ := ComeL.todo R k1 h2;exact ⟨j1, by omega, by omega⟩

theorem J9p : ∀ (l : List Nat), l ≠ [] -> ∃ k a, l = k ++ [a]
 | [], h => absurd rfl h
 | x :: l, _ => by
  by_cases e : l = []
  ·subst e; exact ⟨[], x, rfl⟩
  ·obtain ⟨k, a, h⟩ := J9p l e
   exact ⟨x :: k, a, by rw [h]; rfl⟩

theorem Jb9 {w0 : World} {p : Prg} {lo : Loc} {M B : Nat} {w : World} (h : Ck w0 p lo M B (fun _ => none) [] (.slice none 0 0) w) (hp : p.Ok 200 8) (hnr : ∀ i, i < p.cl -> -9223372036854775808 <= (p.ins i).n /\ (p.ins i).n <= 9223372036854775807) :
  Calls Tryz.prog 33 #[.pointer (some ⟨M, 0, none⟩)] w fun e w' => e = .returned (.tuple #[]) /\ Keeps w w' /\ ∃ l tv, Known p l /\ Ck w0 p lo M B l [] tv w' := by
 suffices hP : ∀ P : Ending -> World -> Prop, (∀ l tv w', Known p l -> Ck w0 p lo M B l [] tv w' -> Keeps w w' -> P (.returned (.tuple #[])) w') -> Calls Tryz.prog 33 #[.pointer (some ⟨M, 0, none⟩)] w P from hP _ (fun l tv w' a b c => ⟨rfl, c, l, tv, a, b⟩)
 intro P hP0;have HP : Hid (∀ l tv w', Known p l -> Ck w0 p lo M B l [] tv w' -> Keeps w w' -> P (.returned (.tuple #[])) w') := hP0;clear hP0;have Hp : Hid (p.Ok 200 8 /\ (∀ i, i < p.cl -> -9223372036854775808 <= (p.ins i).n /\ (p.ins i).n <= 9223372036854775807) /\ 0 < p.cl /\ p.cl <= 200) := ⟨hp, hnr, hp.2.1, hp.2.2.1⟩
 have cc : Calls Tryz.prog 49 #[.pointer (some ⟨M, 0, none⟩), V 0, .agg #[V 0, .bool false, V 0, .bool false, V 0, .bool false, V 0, .bool false, V 0, .bool false, V 0, .bool false, V 0, .bool false, V 0, .bool false]] w fun e w' => e = .returned (.tuple #[]) /\ Keeps w w' /\ ∃ l' td' tv', ComeK p (fun _ => none) [] (0, zeroK) l' td' /\ Ck w0 p lo M B l' td' tv' w' := by
  have := J35 h hp.2.2.1 (by simp) (0, zeroK);rw [J2z] at this;exact this
 clear h hp hnr;go_enter Tryz.func33, Tryz.ntmps33;go_wp2_with (fail)
 refine cc.mono ?_;rintro e w1 ⟨rfl, kp1, l1, td1, tv1, g1, g2⟩;have Ht1 : Hid (Todo p l1 td1 0 []) := Todo.start Hp.out.2.2.1 g1;have Hck1 : Hid (Ck w0 p lo M B l1 td1 tv1 w1 /\ Keeps w w1) := ⟨g2, kp1⟩;have Hl1 : Hid (td1.length <= 1) := g1.len;clear kp1 g1 g2 cc;go_wp2_with (fail)
 go_loopg [] (290 * p.cl + 2) (fun g wr => ∃ (l : KV) (td : List Nat) (tv : Value) (b : Nat), Hid (Ck w0 p lo M B l td tv wr /\ Keeps w wr /\ Todo p l td b [] /\ 290 * p.cl + td.length < g + 2 * rankV l p.cl))
 case atStart => exact ⟨l1, td1, tv1, 0, Hck1.out.1, Hck1.out.2, Ht1.out, by have := Hl1.out; omega⟩
 case round =>
  obtain ⟨l, td, tv, b, Hr⟩ := hrel;by_cases htd : td = []
  ·subst htd
   have Hend : Hid (P (.returned (.tuple #[])) wr) := HP.out l tv wr Hr.out.2.2.1.known Hr.out.1 Hr.out.2.1;obtain ⟨ta, tc, rfl⟩ := Hr.out.1.tform;have y3 : wr.cell? ⟨M, 3, none⟩ = some (.slice ta 0 tc) := Hr.out.1.box.cell (j := 3) rfl;clear HP Hr;go_wp2;go_end0;exact Hend.out
  ·obtain ⟨td0, a, rfl⟩ := J9p td htd
   clear htd;obtain ⟨m, Hm⟩ : ∃ m, Hid (td0.length = m) := ⟨_, rfl⟩;have hlen : (td0 ++ [a]).length = m + 1 := by rw [List.length_append, Hm.out]; rfl
   have hown := Hr.out.1.own;rw [hlen] at hown;obtain ⟨T, cap, htv, hT1, hT2⟩ := hown.form (by omega);subst htv
   have hcap : m + 1 <= cap := by
    rcases hown.2 with ⟨h0, _⟩ | ⟨g', cap', cur, hv, _, _, h5, _⟩
    ·cases h0
    ·cases hv; exact h5
   have hq : wr.cell? ⟨T, m, none⟩ = some (V (a : Int)) := by
    rw [World.ownsRow.cellAt hown m (by omega), List.map_append, List.getElem?_append_right (by rw [List.length_map, Hm.out]; omega), List.length_map, Hm.out, Nat.sub_self]
    rfl
   have y3 : wr.cell? ⟨M, 3, none⟩ = some (.slice (some ⟨T, 0, none⟩) (m + 1) cap) := Hr.out.1.box.cell (j := 3) rfl;have f3 : wr.frozen? ⟨M, 3, none⟩ = false := Hr.out.1.box.frozen 3
   have hbig : m + 1 <= 29000 := by
    have h1 := Hr.out.2.2.1.short;have h2 := J63 Hr.out.2.2.1.on.norm p.cl (Nat.le_refl _);have h3 := Hp.out.2.2.2;rw [hlen] at h1;omega
   have hmi : (m : Int) + 1 <= 29000 := by omega
   have hmc : (m : Int) <= cap := by omega
   obtain ⟨w2, Hw2⟩ : ∃ w_ : World, Hid (w_ = wr.setCell ⟨M, 3, none⟩ (.slice (some ⟨T, 0, none⟩) m cap)) := ⟨_, rfl⟩
   have Hck2 : Hid (Ck w0 p lo M B l td0 (.slice (some ⟨T, 0, none⟩) m cap) w2) := by
    rw [Hw2.out];refine Hr.out.1.set ⟨rfl, rfl, rfl, Nat.le_refl _, fun _ _ _ => rfl⟩ ?_;rw [Hm.out];rw [List.map_append] at hown;exact ownsRow_pop (by rw [List.length_map, Hm.out, Nat.mul_one]) hown
   have Hkp2 : Hid (Keeps w w2) := by
    rw [Hw2.out];exact Hr.out.2.1.trans (Hr.out.1.set_keeps ⟨rfl, rfl, rfl, Nat.le_refl _, fun _ _ _ => rfl⟩)
   obtain ⟨hac, s, hs⟩ := Hr.out.2.2.1.come a (by simp);have Htodo : Hid (Todo p l td0 a (J0f p a s)) := Hr.out.2.2.1.pop Hp.out.1 hs
   have Hmeas : Hid (290 * p.cl + (m + 1) < gk + 2 * rankV l p.cl) := by
    have := Hr.out.2.2.2;rw [hlen] at this;exact this
   have cc : Calls Tryz.prog 50 #[.pointer (some ⟨M, 0, none⟩), V (a : Int)] w2 fun e w' => e = .returned (.tuple #[]) /\ Keeps w2 w' /\ ∃ l' td' tv', ComeL p (J0f p a s) l td0 l' td' /\ Ck w0 p lo M B l' td' tv' w' :=
    Jdi Hck2.out Hp.out.1 Hp.out.2.1 (by rw [Hm.out]; omega) a hac s hs
   clear hown hT1 hT2 hlen hs hac Hr hbig;go_wp2_with (fail)
   rw [<- Hw2.out];refine cc.mono ?_;rintro e w3 ⟨rfl, kp3, l', td', tv', g1, g2⟩;obtain ⟨t1, t2, t3⟩ := ComeL.todo _ Htodo.out g1;have Hkp3 : Hid (Keeps w w3) := Hkp2.out.trans kp3;have Hck3 : Hid (Ck w0 p lo M B l' td' tv' w3) := g2;have Ht3 : Hid (Todo p l' td' a []) := t1
   have Hms : Hid (290 * p.cl + td'.length + 1 < gk + 2 * rankV l' p.cl) := by
    have h1 := Hmeas.out;have h2 := Hm.out;show _ < _;omega
   have Hrk : Hid (rankV l' p.cl <= 145 * p.cl) := J63 t1.on.norm p.cl (Nat.le_refl _);clear kp3 g1 g2 t1 t2 t3 cc y3 f3 hq;cases gk with
   | zero =>
    have h1 := Hms.out;have h2 := Hrk.out;omega
   | succ g =>
    go_wp2;go_roundg g
    case measure => omega
    case rel => exact ⟨l', td', tv', a, Hck3.out, Hkp3.out, Ht3.out, by have h1 := Hms.out; omega⟩
end
end Go.Proofs.YtapagihngaiebaaGreat
