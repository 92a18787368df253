/-
  What the reference's Seen, Memories and Same come to where both sides hold the same.
-/
import Derived.Test.YtdlhlhbbhjbkpaaRows
import Derived.WalkKit
import Derived.Deep.LoopGhost
import Derived.Test.YtdlhlhbbhjbkpaaShown
import Derived.Test.YtdlhlhbbhjbkpaaOrd
namespace Go.Proofs.Ytdlhlhbbhjbkpaa
open Go.RowKit

set_option maxHeartbeats 1000000 in
theorem ref_seen (u v : Value) (l : List Se) (w : World) (hu : SeenAt w u l) (hv : SeenAt w v l) :
    Calls Try.prog 43 #[u, v] w fun e w' => e = .returned (.bool true) ∧ More w w' := by
  obtain ⟨a, b, o, c, rfl, ha, h1, hb⟩ := hu
  obtain ⟨a', b', o', c', rfl, ha', h1', _⟩ := hv
  obtain ⟨n, hn⟩ : ∃ n, l.length = n := ⟨_, rfl⟩
  have H : Hid ((0 < n → a = some ⟨b, o, none⟩) ∧ SeesAt w b o l ∧ (0 < n → a' = some ⟨b', o', none⟩) ∧ SeesAt w b' o' l ∧ n < 4611686018427387904 ∧ l.length = n) := by
    subst hn; exact ⟨ha, h1, ha', h1', hb, rfl⟩
  rw [hn]
  clear ha h1 ha' h1' hb hn
  go_enter Try.func43, Try.ntmps43
  go_wp2
  go_loopg [5] n (fun q i wr => ∃ k : Nat, k + q = n ∧ i = .int .i64 k ∧ More w wr)
  case atStart => exact ⟨0, by omega, rfl, More.refl _⟩
  case round =>
    obtain ⟨k, hkg, rfl, m⟩ := hrel
    have Hm : Hid (More w wr) := m
    clear m
    cases gk with
    | zero =>
      obtain rfl : k = n := by omega
      go_wp2
      go_ret
      exact ⟨rfl, Hm.out⟩
    | succ q =>
      have hk : k < n := by omega
      have hk' : (k : Int) < (n : Int) := by omega
      have hk0 : (0 : Int) ≤ (k : Int) := by omega
      obtain rfl := H.out.1 (by omega)
      obtain rfl := H.out.2.2.1 (by omega)
      obtain ⟨s, Hs⟩ : ∃ s, Hid (l[k]? = some s) := ⟨_, List.getElem?_eq_getElem (by have := H.out.2.2.2.2.2; omega)⟩
      have q1 := (H.out.2.1.more Hm.out) k s Hs.out
      have q2 := (H.out.2.2.2.1.more Hm.out) k s Hs.out
      obtain ⟨x, y, z⟩ := s
      obtain ⟨S, HS⟩ : ∃ S : World → Prop, Hid (∀ w', S w' ↔ More wr w') := ⟨fun w' => More wr w', fun _ => Iff.rfl⟩
      have k0 : ∀ i : { w' // S w' }, i.val.cell? ⟨b, o + k * 3, none⟩ = some (.int .i64 x) := fun i => ((HS.out _).1 i.property).cell q1.1
      have k1 : ∀ i : { w' // S w' }, i.val.cell? ⟨b, o + k * 3 + 1, none⟩ = some (.int .i64 y) := fun i => ((HS.out _).1 i.property).cell q1.2.1
      have k2 : ∀ i : { w' // S w' }, i.val.cell? ⟨b, o + k * 3 + 2, none⟩ = some (.int .i64 z) := fun i => ((HS.out _).1 i.property).cell q1.2.2
      have d0 : ∀ i : { w' // S w' }, i.val.cell? ⟨b', o' + k * 3, none⟩ = some (.int .i64 x) := fun i => ((HS.out _).1 i.property).cell q2.1
      have d1 : ∀ i : { w' // S w' }, i.val.cell? ⟨b', o' + k * 3 + 1, none⟩ = some (.int .i64 y) := fun i => ((HS.out _).1 i.property).cell q2.2.1
      have d2 : ∀ i : { w' // S w' }, i.val.cell? ⟨b', o' + k * 3 + 2, none⟩ = some (.int .i64 z) := fun i => ((HS.out _).1 i.property).cell q2.2.2
      have hne : Nonempty { w' // S w' } := ⟨⟨wr, (HS.out _).2 (More.refl _)⟩⟩
      clear q1 q2
      go_wp2_with (fail)
      refine wp_region_ord (S := S) [(0, true), (1, true), (2, true), (3, true), (4, true), (5, true), (6, true), (7, true), (8, true)] (by kernel_rfl) (by kernel_rfl) (by kernel_rfl) ((HS.out _).2 (More.refl _).drew) ?_
      iterate 9 (refine wpOrd_take rfl (by kernel_rfl) (fun K hK => ?_); go_simp; refine hK _ _ ?_; clear hK K)
      refine wpOrd_done ?_
      clear k0 k1 k2 d0 d1 d2 hne
      go_wp2
      go_roundg q
      case measure => omega
      case rel => exact ⟨k + 1, by omega, by first | rfl | (simp; unfold wrap64; have := H.out.2.2.2.2.1; omega), Hm.out.drew⟩

set_option maxHeartbeats 1000000 in
theorem ref_memories (x y : Mem) (l l' : MLoc) (w : World) (hx : MIn w x l) (hy : MIn w y l') (hl : x.Like y) :
    Calls Try.prog 44 #[.slice l.ma x.ml l.mc, .slice l'.ma y.ml l'.mc] w fun e w' => e = .returned (.bool true) ∧ More w w' := by
  obtain ⟨ma, mb, mo, mc, A, C, gb, go⟩ := l
  obtain ⟨ma', mb', mo', mc', A', C', gb', go'⟩ := l'
  have H : Hid (MIn w x ⟨ma, mb, mo, mc, A, C, gb, go⟩ ∧ MIn w y ⟨ma', mb', mo', mc', A', C', gb', go'⟩ ∧ x.Like y) := ⟨hx, hy, hl⟩
  clear hx hy hl
  obtain ⟨n, hn⟩ : ∃ n, x.ml = n := ⟨_, rfl⟩
  have hn' : y.ml = n := by rw [← H.out.2.2.ml]; exact hn
  dsimp only
  rw [hn, hn']
  have Hn : Hid (x.ml = n ∧ y.ml = n) := ⟨hn, hn'⟩
  clear hn hn'
  go_enter Try.func44, Try.ntmps44
  go_wp2
  go_loopg [5] n (fun q i wr => ∃ k : Nat, k + q = n ∧ i = .int .i64 k ∧ More w wr)
  case atStart => exact ⟨0, by omega, rfl, More.refl _⟩
  case round =>
    obtain ⟨k, hkg, rfl, m⟩ := hrel
    have Hm : Hid (More w wr) := m
    clear m
    cases gk with
    | zero =>
      obtain rfl : k = n := by omega
      go_wp2
      go_ret
      exact ⟨rfl, Hm.out⟩
    | succ q =>
      have hk : k < n := by omega
      have hk' : (k : Int) < (n : Int) := by omega
      have hk0 : (0 : Int) ≤ (k : Int) := by omega
      have Hk : Hid (k < x.ml ∧ k < y.ml) := ⟨by rw [Hn.out.1]; exact hk, by rw [Hn.out.2]; exact hk⟩
      obtain rfl : ma = some ⟨mb, mo, none⟩ := H.out.1.hm (by have := Hk.out.1; omega)
      obtain rfl : ma' = some ⟨mb', mo', none⟩ := H.out.2.1.hm (by have := Hk.out.2; omega)
      have q1 := H.out.1.lists k Hk.out.1
      have q2 := H.out.2.1.lists k Hk.out.2
      dsimp only at q1 q2
      rw [← H.out.2.2.len k Hk.out.1] at q2
      obtain ⟨r, hr⟩ : ∃ r, x.len k = r := ⟨_, rfl⟩
      rw [hr] at q1 q2
      have HR : Hid (x.len k = r ∧ r < 4611686018427387904) := ⟨hr, by rw [← hr]; exact H.out.1.fitw k Hk.out.1⟩
      clear hr
      have Ha : Hid (0 < r → A k = some ⟨gb k, go k, none⟩) := fun h => H.out.1.hg k Hk.out.1 (by rw [HR.out.1]; exact h)
      have Ha' : Hid (0 < r → A' k = some ⟨gb' k, go' k, none⟩) := fun h => H.out.2.1.hg k Hk.out.2 (by rw [← H.out.2.2.len k Hk.out.1, HR.out.1]; exact h)
      obtain ⟨Ak, hA⟩ : ∃ z, A k = z := ⟨_, rfl⟩
      obtain ⟨Ak', hA'⟩ : ∃ z, A' k = z := ⟨_, rfl⟩
      rw [hA] at q1 Ha
      rw [hA'] at q2 Ha'
      clear hA hA'
      have Hq : Hid (w.cell? ⟨mb, mo + k, none⟩ = some (.slice Ak r (C k)) ∧ w.cell? ⟨mb', mo' + k, none⟩ = some (.slice Ak' r (C' k))) := ⟨q1, q2⟩
      obtain ⟨S, HS⟩ : ∃ S : World → Prop, Hid (∀ w', S w' ↔ More wr w') := ⟨fun w' => More wr w', fun _ => Iff.rfl⟩
      have k0 : ∀ i : { w' // S w' }, i.val.cell? ⟨mb, mo + k, none⟩ = some (.slice Ak r (C k)) := fun i => ((HS.out _).1 i.property).cell (Hm.out.cell q1)
      have k1 : ∀ i : { w' // S w' }, i.val.cell? ⟨mb', mo' + k, none⟩ = some (.slice Ak' r (C' k)) := fun i => ((HS.out _).1 i.property).cell (Hm.out.cell q2)
      have hne : Nonempty { w' // S w' } := ⟨⟨wr, (HS.out _).2 (More.refl _)⟩⟩
      clear q1 q2
      go_wp2_with (fail)
      refine wp_region_ord (S := S) [(0, true), (1, true), (2, true), (3, true), (4, true), (5, true), (6, true), (7, true), (8, true), (9, true), (10, true)] (by kernel_rfl) (by kernel_rfl) (by kernel_rfl) ((HS.out _).2 (More.refl _).drew) ?_
      iterate 11 (refine wpOrd_take rfl (by kernel_rfl) (fun K hK => ?_); go_simp; refine hK _ _ ?_; clear hK K)
      refine wpOrd_done ?_
      clear k0 k1 hne
      go_wp2
      go_loopg [6] r (fun g i wq => ∃ j : Nat, j + g = r ∧ i = .int .i64 j ∧ More w wq)
      case atStart => exact ⟨0, by omega, rfl, Hm.out.drew⟩
      case round =>
        obtain ⟨j, hjg, rfl, mq⟩ := hrel
        have q1 := mq.cell Hq.out.1
        have q2 := mq.cell Hq.out.2
        have Hmq : Hid (More w wr) := mq
        clear mq
        cases gk with
        | zero =>
          obtain rfl : j = r := by omega
          go_wp2
          go_roundg q
          case measure => omega
          case rel => exact ⟨k + 1, by omega, by first | rfl | (simp; unfold wrap64; have := H.out.1.fitl; have := Hn.out.1; omega), Hmq.out⟩
        | succ g =>
          have hj : j < r := by omega
          have hj' : (j : Int) < (r : Int) := by omega
          have hj0 : (0 : Int) ≤ (j : Int) := by omega
          obtain rfl := Ha.out (by omega)
          obtain rfl := Ha'.out (by omega)
          have p1 := Hmq.out.cell (H.out.1.words k Hk.out.1 j (by rw [HR.out.1]; exact hj))
          have p2 := Hmq.out.cell (H.out.2.1.words k Hk.out.2 j (by rw [← H.out.2.2.len k Hk.out.1, HR.out.1]; exact hj))
          rw [← H.out.2.2.wd k Hk.out.1 j (by rw [HR.out.1]; exact hj)] at p2
          dsimp only at p1 p2
          obtain ⟨z, hz⟩ : ∃ z, x.wd k j = z := ⟨_, rfl⟩
          rw [hz] at p1 p2
          clear hz
          obtain ⟨S, HS⟩ : ∃ S : World → Prop, Hid (∀ w', S w' ↔ More wr w') := ⟨fun w' => More wr w', fun _ => Iff.rfl⟩
          have k0 : ∀ i : { w' // S w' }, i.val.cell? ⟨mb, mo + k, none⟩ = some (.slice (some ⟨gb k, go k, none⟩) r (C k)) := fun i => ((HS.out _).1 i.property).cell q1
          have k1 : ∀ i : { w' // S w' }, i.val.cell? ⟨mb', mo' + k, none⟩ = some (.slice (some ⟨gb' k, go' k, none⟩) r (C' k)) := fun i => ((HS.out _).1 i.property).cell q2
          have k2 : ∀ i : { w' // S w' }, i.val.cell? ⟨gb k, go k + j, none⟩ = some (.int .i64 z) := fun i => ((HS.out _).1 i.property).cell p1
          have k3 : ∀ i : { w' // S w' }, i.val.cell? ⟨gb' k, go' k + j, none⟩ = some (.int .i64 z) := fun i => ((HS.out _).1 i.property).cell p2
          have hne : Nonempty { w' // S w' } := ⟨⟨wr, (HS.out _).2 (More.refl _)⟩⟩
          go_wp2_with (fail)
          refine wp_region_ord (S := S) [(0, true), (1, true), (2, true), (3, true), (4, true), (5, true), (6, true), (7, true), (8, true), (9, true), (10, true), (11, true), (12, true), (13, true), (14, true)] (by kernel_rfl) (by kernel_rfl) (by kernel_rfl) ((HS.out _).2 (More.refl _).drew) ?_
          iterate 15 (refine wpOrd_take rfl (by kernel_rfl) (fun K hK => ?_); go_simp; refine hK _ _ ?_; clear hK K)
          refine wpOrd_done ?_
          clear k0 k1 k2 k3 hne p1 p2 q1 q2
          go_wp2
          go_roundg g
          case measure => omega
          case rel => exact ⟨j + 1, by omega, by first | rfl | (simp; unfold wrap64; have := HR.out.2; omega), Hmq.out.drew⟩

set_option maxHeartbeats 1000000 in
theorem ref_same (u v : Value) (x y : Sh) (w : World) (hu : ShownAt w u x) (hv : ShownAt w v y) (h1 : x.fin = y.fin) (h2 : x.val = y.val) (h3 : x.steps = y.steps) (h4 : x.seen = y.seen) (h5 : x.mem.Like y.mem) :
    Calls Try.prog 22 #[u, v] w fun e w' => e = .returned (.bool true) ∧ More w w' := by
  obtain ⟨fx, vx, tx, sx, mx⟩ := x
  obtain ⟨fy, vy, ty, sy, my⟩ := y
  dsimp only at h1 h2 h3 h4 h5
  subst h1 h2 h3 h4
  obtain ⟨sv, l, rfl, hs, hm⟩ := hu
  obtain ⟨sv', l', rfl, hs', hm'⟩ := hv
  dsimp only at hs hs' hm hm' ⊢
  have H : Hid (SeenAt w sv sx ∧ SeenAt w sv' sx ∧ MIn w mx l ∧ MIn w my l' ∧ mx.Like my) := ⟨hs, hs', hm, hm', h5⟩
  clear hs hs' hm hm' h5
  go_enter Try.func22, Try.ntmps22
  go_wp2_with (fail)
  have m0 : More w ((w.alloc (.cells #[.int .i64 fx, .int .i64 vx, .int .i64 tx, sv, .slice l.ma mx.ml l.mc] 37)).alloc (.cells #[.int .i64 fx, .int .i64 vx, .int .i64 tx, sv', .slice l'.ma my.ml l'.mc] 37)) := ((More.refl _).alloc _ _).alloc _ _
  refine (ref_seen sv sv' sx _ (H.out.1.more m0) (H.out.2.1.more m0)).mono ?_
  rintro e w1 ⟨rfl, m1⟩
  have e0 : w1.cell? ⟨w.heap.size, 4, none⟩ = some (.slice l.ma mx.ml l.mc) := m1.cell (by go_simp)
  have e1 : w1.cell? ⟨w.heap.size + 1, 4, none⟩ = some (.slice l'.ma my.ml l'.mc) := m1.cell (by go_simp)
  have Hm1 : Hid (More w w1) := m0.trans m1
  clear m0 m1
  go_wp2_with (fail)
  refine (ref_memories mx my l l' _ (H.out.2.2.1.more Hm1.out) (H.out.2.2.2.1.more Hm1.out) H.out.2.2.2.2).mono ?_
  rintro e w2 ⟨rfl, m2⟩
  have Hm2 : Hid (More w w2) := Hm1.out.trans m2
  clear m2 e0 e1
  go_wp2
  go_ret
  exact ⟨rfl, Hm2.out⟩

end Go.Proofs.Ytdlhlhbbhjbkpaa
