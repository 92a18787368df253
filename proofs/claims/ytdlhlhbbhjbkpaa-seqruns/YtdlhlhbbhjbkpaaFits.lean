/-
  What layout's Fits comes to, called in whatever memory.
-/
import Derived.Deep.LoopGhost
import Derived.Test.YtdlhlhbbhjbkpaaRegions
import Derived.Test.YtdlhlhbbhjbkpaaOrd
namespace Go.Proofs.Ytdlhlhbbhjbkpaa
open Go.RowKit

set_option maxHeartbeats 1000000 in
theorem fits_calls (ra : Option Addr) (rl rc : Nat) (ca : Option Addr) (cl cc : Nat) (ma : Option Addr) (ml mc : Nat) (rb ro mb mo : Nat) (log : Nat → Int) (sec : Nat → Bool) (A : Nat → Option Addr) (L C : Nat → Nat) (w : World)
    (hra : 0 < rl → ra = some ⟨rb, ro, none⟩) (hr : RegsAt w rb ro rl log sec) (hma : 0 < ml → ma = some ⟨mb, mo, none⟩) (hm : ListsAt w mb mo ml A L C) :
    Calls Try.prog 16 #[.agg #[.slice ra rl rc, .slice ca cl cc], .slice ma ml mc] w (Says (FitsOk rl log ml L) w) := by
  have Hr : Hid ((0 < rl → ra = some ⟨rb, ro, none⟩) ∧ RegsAt w rb ro rl log sec) := ⟨hra, hr⟩
  have Hl : Hid ((0 < ml → ma = some ⟨mb, mo, none⟩) ∧ ListsAt w mb mo ml A L C) := ⟨hma, hm⟩
  clear hra hr hma hm
  have m0 : More w ((w.alloc (.cells #[.slice ra rl rc, .slice ca cl cc] 29)).alloc (.cells #[.slice ra rl rc, .slice ca cl cc, .int .i64 0, .int .i64 0] 56)) := ((More.refl _).alloc _ _).alloc _ _
  have Hm0 : Hid (More w ((w.alloc (.cells #[.slice ra rl rc, .slice ca cl cc] 29)).alloc (.cells #[.slice ra rl rc, .slice ca cl cc, .int .i64 0, .int .i64 0] 56))) := m0
  clear m0
  go_enter Try.func16, Try.ntmps16
  go_wp2_with (fail)
  refine (regions_calls ra rl rc ca cl cc 0 0 rb ro log sec _ Hr.out.1 (Hr.out.2.more Hm0.out)).mono ?_
  rintro e w1 ⟨r, rfl, h, m1⟩
  have e0 : w1.cell? ⟨w.heap.size, 0, none⟩ = some (.slice ra rl rc) := m1.cell (by go_simp)
  have e1 : w1.cell? ⟨w.heap.size, 1, none⟩ = some (.slice ca cl cc) := m1.cell (by go_simp)
  have Hm1 : Hid (More w w1) := Hm0.out.trans m1
  clear m1 Hm0
  cases r with
  | false =>
    have HA : Hid (¬ RegionsOk rl log) := fun k => by simpa using h.2 k
    clear h
    go_wp2
    go_ret
    exact Says.no (fun h => HA.out h.1) Hm1.out
  | true =>
    have HA : Hid (RegionsOk rl log) := h.1 rfl
    clear h
    by_cases hne : (ml : Int) = (rl : Int)
    · obtain rfl : ml = rl := by omega
      clear hne
      have h6 : ml ≤ 6 := HA.out.1
      go_wp2
      go_loopg [22] ml (fun g i wr => ∃ k : Nat, k + g = ml ∧ i = .int .i64 k ∧ (∀ j, j < k → (L j : Int) = wordsI (log j)) ∧ More w1 wr)
      case atStart => exact ⟨0, by omega, rfl, fun j hj => by omega, More.refl _⟩
      case round =>
        obtain ⟨k, hkg, rfl, hin, m⟩ := hrel
        have Hm : Hid (More w1 wr ∧ ∀ j, j < k → (L j : Int) = wordsI (log j)) := ⟨m, hin⟩
        clear m hin e0 e1
        cases gk with
        | zero =>
          obtain rfl : k = ml := by omega
          go_wp2
          go_ret
          exact Says.yes ⟨HA.out, rfl, Hm.out.2⟩ (Hm1.out.trans Hm.out.1)
        | succ g =>
          have hk : k < ml := by omega
          have hk' : (k : Int) < (ml : Int) := by omega
          have hk0 : (0 : Int) ≤ (k : Int) := by omega
          obtain rfl := Hr.out.1 (by omega)
          obtain rfl := Hl.out.1 (by omega)
          have Hww : Hid (More w wr) := Hm1.out.trans Hm.out.1
          have q0 := ((Hr.out.2.more Hww.out) k hk).1
          have q1 := ((Hr.out.2.more Hww.out) k hk).2
          have q2 := (Hl.out.2.more Hww.out) k hk
          have Hlog : Hid (0 ≤ log k ∧ log k ≤ 6) := HA.out.2 k hk
          obtain ⟨lk, hlk⟩ : ∃ x, log k = x := ⟨_, rfl⟩
          rw [hlk] at q0 Hlog
          have Hlk : Hid (log k = lk) := hlk
          clear hlk
          obtain ⟨W, HW⟩ : ∃ W : World, Hid (W = wr.alloc (.cells #[.int .i64 lk, .bool (sec k)] 59)) := ⟨_, rfl⟩
          have HwW : Hid (More wr W) := HW.out ▸ ((More.refl _).alloc _ _)
          obtain ⟨S, HS⟩ : ∃ S : World → Prop, Hid (∀ w', S w' ↔ More W w') := ⟨fun w' => More W w', fun _ => Iff.rfl⟩
          have k2 : ∀ i : { w' // S w' }, i.val.cell? ⟨mb, mo + k, none⟩ = some (.slice (A k) (L k) (C k)) := fun i => ((HS.out _).1 i.property).cell (HwW.out.cell q2)
          have d0 : ∀ i : { w' // S w' }, i.val.cell? ⟨wr.heap.size, 0, none⟩ = some (.int .i64 lk) := fun i => ((HS.out _).1 i.property).cell (by rw [HW.out]; go_simp)
          have d1 : ∀ i : { w' // S w' }, i.val.cell? ⟨wr.heap.size, 1, none⟩ = some (.bool (sec k)) := fun i => ((HS.out _).1 i.property).cell (by rw [HW.out]; go_simp)
          have hne : Nonempty { w' // S w' } := ⟨⟨W, (HS.out _).2 (More.refl _)⟩⟩
          go_wp2_with (fail)
          clear q0 q1 q2
          refine wp_region_ord (S := S) [(0, true), (1, true), (2, true), (3, true), (4, true), (5, true), (6, false), (7, true)] (by kernel_rfl) (by kernel_rfl) (by kernel_rfl) ((HS.out _).2 (HW.out ▸ (More.refl _).drew)) ?_
          iterate 6 (refine wpOrd_take rfl (by kernel_rfl) (fun K hK => ?_); go_simp; refine hK _ _ ?_; clear hK K)
          refine wpOrd_busy rfl (by kernel_rfl) (fun K hK => ?_); go_simp
          obtain ⟨nw, hnw⟩ : ∃ x, wordsI lk = x := ⟨_, rfl⟩
          refine (words_lit lk Hlog.out.1 Hlog.out.2 nw hnw.symm (sec k) _).mono ?_
          have Hnw : Hid (wordsI (log k) = nw) := by rw [Hlk.out]; exact hnw
          clear hnw
          rintro e w2 ⟨rfl, m2⟩
          have Hm2 : Hid (More W w2) := HW.out ▸ (More.trans (More.refl _).drew m2)
          clear m2
          go_simp
          refine hK _ _ ((HS.out _).2 Hm2.out) ?_; clear hK K
          by_cases hq : (L k : Int) = nw
          · have Hq : Hid ((L k : Int) = nw) := hq
            have heq : ((L k : Int) != nw) = false := by simp [hq]
            clear hq
            refine wpOrd_take rfl (by kernel_rfl) (fun K hK => ?_); go_simp; refine hK _ _ ?_; clear hK K
            refine wpOrd_done ?_
            clear heq k2 d0 d1 hne
            go_wp2
            go_roundg g
            case measure => omega
            case rel =>
              refine ⟨k + 1, by omega, by first | rfl | simp, fun j hj => ?_, (Hm.out.1.trans HwW.out).trans Hm2.out⟩
              by_cases e : j = k
              · subst e; rw [Hq.out, Hnw.out]
              · exact Hm.out.2 j (by omega)
          · have Hq : Hid (¬ (L k : Int) = nw) := hq
            have heq' : ((L k : Int) != nw) = true := by simp [hq]
            clear hq
            refine wpOrd_take rfl (by kernel_rfl) (fun K hK => ?_); go_simp; refine hK _ _ ?_; clear hK K
            refine wpOrd_done ?_
            clear heq' k2 d0 d1 hne
            go_wp2
            go_ret
            exact Says.no (fun h => Hq.out (by rw [← Hnw.out]; exact h.2.2 k hk)) ((Hww.out.trans HwW.out).trans Hm2.out)
    · go_wp2
      go_ret
      exact Says.no (fun h => by have := h.2.1; omega) Hm1.out

end Go.Proofs.Ytdlhlhbbhjbkpaa
