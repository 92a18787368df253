/-
  What begins comes to where the one list begins with the other one.
-/
import Derived.Test.YtdlhlhbbhjbkpaaRows
import Derived.WalkKit
import Derived.Deep.LoopGhost
import Derived.Test.YtdlhlhbbhjbkpaaShown
import Derived.Test.YtdlhlhbbhjbkpaaOrd
namespace Go.Proofs.Ytdlhlhbbhjbkpaa
open Go.RowKit

set_option maxHeartbeats 1000000 in
theorem begins_calls (u v : Value) (l t : List Se) (w : World) (hu : SeenAt w u (l ++ t)) (hv : SeenAt w v l) :
    Calls Try.prog 24 #[u, v] w fun e w' => e = .returned (.bool true) ∧ More w w' := by
  obtain ⟨a, b, o, c, rfl, ha, h1, hb⟩ := hu
  obtain ⟨a', b', o', c', rfl, ha', h1', _⟩ := hv
  obtain ⟨n, hn⟩ : ∃ n, l.length = n := ⟨_, rfl⟩
  obtain ⟨N, hN⟩ : ∃ N, (l ++ t).length = N := ⟨_, rfl⟩
  have hnN : n ≤ N := by rw [← hn, ← hN]; simp
  have H : Hid ((0 < n → a = some ⟨b, o, none⟩) ∧ SeesAt w b o (l ++ t) ∧ (0 < n → a' = some ⟨b', o', none⟩) ∧ SeesAt w b' o' l ∧ N < 4611686018427387904 ∧ l.length = n) := by
    subst hn; exact ⟨fun h => ha (by rw [hN]; omega), h1, ha', h1', by rw [← hN]; exact hb, rfl⟩
  rw [hn, hN]
  have hnN' : ¬ (N : Int) < (n : Int) := by omega
  clear ha h1 ha' h1' hb hn hN
  go_enter Try.func24, Try.ntmps24
  go_wp2
  go_loopg [5] n (fun q i wr => ∃ k : Nat, k + q = n ∧ i = .int .i64 k ∧ More w wr)
  case atStart => exact ⟨0, by omega, rfl, More.refl _⟩
  case round =>
    obtain ⟨k, hkg, rfl, m⟩ := hrel
    have Hm : Hid (More w wr) := m
    clear m
    cases gk with
    | zero =>
      obtain rfl : k = n := by omega
      go_wp2
      go_ret
      exact ⟨rfl, Hm.out⟩
    | succ q =>
      have hk : k < n := by omega
      have hk' : (k : Int) < (n : Int) := by omega
      have hkN : (k : Int) < (N : Int) := by omega
      have hk0 : (0 : Int) ≤ (k : Int) := by omega
      obtain rfl := H.out.1 (by omega)
      obtain rfl := H.out.2.2.1 (by omega)
      have hlt : k < l.length := by have := H.out.2.2.2.2.2; omega
      obtain ⟨s, Hs⟩ : ∃ s, Hid (l[k]? = some s) := ⟨_, List.getElem?_eq_getElem hlt⟩
      have Hs' : Hid ((l ++ t)[k]? = some s) := by rw [show Hid ((l ++ t)[k]? = some s) = ((l ++ t)[k]? = some s) from rfl, List.getElem?_append_left hlt]; exact Hs.out
      have q1 := (H.out.2.1.more Hm.out) k s Hs'.out
      have q2 := (H.out.2.2.2.1.more Hm.out) k s Hs.out
      obtain ⟨x, y, z⟩ := s
      obtain ⟨S, HS⟩ : ∃ S : World → Prop, Hid (∀ w', S w' ↔ More wr w') := ⟨fun w' => More wr w', fun _ => Iff.rfl⟩
      have k0 : ∀ i : { w' // S w' }, i.val.cell? ⟨b, o + k * 3, none⟩ = some (.int .i64 x) := fun i => ((HS.out _).1 i.property).cell q1.1
      have k1 : ∀ i : { w' // S w' }, i.val.cell? ⟨b, o + k * 3 + 1, none⟩ = some (.int .i64 y) := fun i => ((HS.out _).1 i.property).cell q1.2.1
      have k2 : ∀ i : { w' // S w' }, i.val.cell? ⟨b, o + k * 3 + 2, none⟩ = some (.int .i64 z) := fun i => ((HS.out _).1 i.property).cell q1.2.2
      have d0 : ∀ i : { w' // S w' }, i.val.cell? ⟨b', o' + k * 3, none⟩ = some (.int .i64 x) := fun i => ((HS.out _).1 i.property).cell q2.1
      have d1 : ∀ i : { w' // S w' }, i.val.cell? ⟨b', o' + k * 3 + 1, none⟩ = some (.int .i64 y) := fun i => ((HS.out _).1 i.property).cell q2.2.1
      have d2 : ∀ i : { w' // S w' }, i.val.cell? ⟨b', o' + k * 3 + 2, none⟩ = some (.int .i64 z) := fun i => ((HS.out _).1 i.property).cell q2.2.2
      have hne : Nonempty { w' // S w' } := ⟨⟨wr, (HS.out _).2 (More.refl _)⟩⟩
      clear q1 q2 hlt hnN' hnN
      go_wp2_with (fail)
      refine wp_region_ord (S := S) [(0, true), (1, true), (2, true), (3, true), (4, true), (5, true), (6, true), (7, true), (8, true)] (by kernel_rfl) (by kernel_rfl) (by kernel_rfl) ((HS.out _).2 (More.refl _).drew) ?_
      iterate 9 (refine wpOrd_take rfl (by kernel_rfl) (fun K hK => ?_); go_simp; refine hK _ _ ?_; clear hK K)
      refine wpOrd_done ?_
      clear k0 k1 k2 d0 d1 d2 hne
      go_wp2
      go_roundg q
      case measure => omega
      case rel => exact ⟨k + 1, by omega, by first | rfl | (simp; unfold wrap64; have := H.out.2.2.2.2.1; omega), Hm.out.drew⟩

end Go.Proofs.Ytdlhlhbbhjbkpaa
