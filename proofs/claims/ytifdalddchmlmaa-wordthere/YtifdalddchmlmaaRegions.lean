/-
  What layout's regionsAllowed, registers, region, place, words and the like come to, called in whatever memory.
-/
import Derived.Test.YtifdalddchmlmaaRows
import Derived.WalkKit
import Derived.Deep.LoopGhost
import Derived.Test.YtifdalddchmlmaaMem
namespace Go.Proofs.Ytifdalddchmlmaa
open Go.RowKit

set_option maxHeartbeats 400000 in
theorem regions_calls (ra : Option Addr) (rl rc : Nat) (ca : Option Addr) (cl cc : Nat) (code regs : Int) (b o : Nat) (log : Nat → Int) (sec : Nat → Bool) (w : World)
    (hra : 0 < rl → ra = some ⟨b, o, none⟩) (hr : RegsAt w b o rl log sec) :
    Calls Try.prog 21 #[.agg #[.slice ra rl rc, .slice ca cl cc, .int .i64 code, .int .i64 regs]] w (Says (RegionsOk rl log) w) := by
  by_cases h6 : 6 < rl
  · have Hr : Hid (RegsAt w b o rl log sec) := hr
    clear hr
    have h6' : (6 : Int) < (rl : Int) := by omega
    go_enter Try.func21, Try.ntmps21
    go_wp2
    go_ret
    exact Says.no (fun h => by have := h.1; omega) ((More.refl _).alloc _ _)
  · have h6' : ¬ (6 : Int) < (rl : Int) := by omega
    have Hr : Hid (RegsAt w b o rl log sec) := hr
    have Ha : Hid (0 < rl → ra = some ⟨b, o, none⟩) := hra
    clear hr hra
    go_enter Try.func21, Try.ntmps21
    go_wp2
    go_loopg [14] rl (fun g i wr => ∃ k : Nat, k + g = rl ∧ i = .int .i64 k ∧ (∀ j, j < k → 0 ≤ log j ∧ log j ≤ 6) ∧ More w wr)
    case atStart => exact ⟨0, by omega, rfl, fun j hj => by omega, (More.refl _).alloc _ _⟩
    case round =>
      obtain ⟨k, hkg, rfl, hok, m⟩ := hrel
      have Hm : Hid (More w wr ∧ ∀ j, j < k → 0 ≤ log j ∧ log j ≤ 6) := ⟨m, hok⟩
      clear m hok
      cases gk with
      | zero =>
        obtain rfl : k = rl := by omega
        go_wp2
        go_ret
        exact Says.yes ⟨by omega, Hm.out.2⟩ Hm.out.1
      | succ g =>
        have hk : k < rl := by omega
        have hk' : (k : Int) < (rl : Int) := by omega
        obtain rfl := Ha.out (by omega)
        have hc0 := ((Hr.out.more Hm.out.1) k hk).1
        have hc1 := ((Hr.out.more Hm.out.1) k hk).2
        by_cases hlo : log k < 0
        · go_wp2
          go_ret
          exact Says.no (fun h => by have := (h.2 k hk).1; omega) (by repeat (first | exact Hm.out.1 | apply More.alloc))
        · by_cases hhi : 6 < log k
          · go_wp2
            go_ret
            exact Says.no (fun h => by have := (h.2 k hk).2; omega) (by repeat (first | exact Hm.out.1 | apply More.alloc))
          · go_wp2
            go_roundg g
            case measure => omega
            case rel =>
              refine ⟨k + 1, by omega, by first | rfl | simp, fun j hj => ?_, by repeat (first | exact Hm.out.1 | apply More.alloc)⟩
              by_cases e : j = k
              · subst e; omega
              · exact Hm.out.2 j (by omega)

set_option maxHeartbeats 400000 in
theorem registers_calls (ra : Option Addr) (rl rc : Nat) (ca : Option Addr) (cl cc : Nat) (code regs : Int) (g n c : Nat) (hn : n ≤ 3) (x : Nat → Int) (w : World)
    (hx : ∀ i, i < n → w.cell? ⟨g, i, none⟩ = some (.int .i64 (x i))) :
    Calls Try.prog 29 #[.agg #[.slice ra rl rc, .slice ca cl cc, .int .i64 code, .int .i64 regs], .slice (some ⟨g, 0, none⟩) n c] w (Says (∀ i, i < n → Reg regs (x i)) w) := by
  have Hx : Hid (∀ i, i < n → w.cell? ⟨g, i, none⟩ = some (.int .i64 (x i))) := hx
  clear hx
  go_enter Try.func29, Try.ntmps29
  go_wp2
  go_loopg [9] n (fun q i wr => ∃ k : Nat, k + q = n ∧ i = .int .i64 k ∧ (∀ j, j < k → Reg regs (x j)) ∧ wr = w.alloc (.cells #[.slice ra rl rc, .slice ca cl cc, .int .i64 code, .int .i64 regs] 47))
  case atStart => exact ⟨0, by omega, rfl, fun j hj => by omega, rfl⟩
  case round =>
    obtain ⟨k, hkg, rfl, hok, rfl⟩ := hrel
    have Hok : Hid (∀ j, j < k → Reg regs (x j)) := hok
    clear hok
    cases gk with
    | zero =>
      obtain rfl : k = n := by omega
      go_wp2
      go_ret
      exact Says.yes Hok.out ((More.refl _).alloc _ _)
    | succ q =>
      have hk : k < n := by omega
      have hk' : (k : Int) < (n : Int) := by omega
      have hc0 := Hx.out k hk
      have hc := ((More.refl w).alloc #[.slice ra rl rc, .slice ca cl cc, .int .i64 code, .int .i64 regs] 47).cell hc0
      clear hc0
      by_cases hlo : x k < 0
      · go_wp2
        go_ret
        exact Says.no (fun h => by have := (h k hk).1; omega) ((More.refl _).alloc _ _)
      · by_cases hhi : regs ≤ x k
        · go_wp2
          go_ret
          exact Says.no (fun h => by have := (h k hk).2; omega) ((More.refl _).alloc _ _)
        · go_wp2
          go_roundg q
          case measure => omega
          case rel =>
            refine ⟨k + 1, by omega, by first | rfl | simp, fun j hj => ?_, rfl⟩
            by_cases e : j = k
            · subst e; exact ⟨by omega, by omega⟩
            · exact Hok.out j (by omega)

theorem region_calls (ra : Option Addr) (rl rc : Nat) (ca : Option Addr) (cl cc : Nat) (code regs : Int) (c : Int) (w : World) :
    Calls Try.prog 30 #[.agg #[.slice ra rl rc, .slice ca cl cc, .int .i64 code, .int .i64 regs], .int .i64 c] w (Says (Rgn rl c) w) := by
  by_cases h0 : 0 ≤ c
  · by_cases h1 : c < (rl : Int)
    · go_enter Try.func30, Try.ntmps30
      go_wp2
      go_ret
      exact Says.yes ⟨h0, h1⟩ ((More.refl _).alloc _ _)
    · go_enter Try.func30, Try.ntmps30
      go_wp2
      go_ret
      exact Says.no (fun h => by have := h.2; omega) ((More.refl _).alloc _ _)
  · go_enter Try.func30, Try.ntmps30
    go_wp2
    go_ret
    exact Says.no (fun h => by have := h.1; omega) ((More.refl _).alloc _ _)

theorem lay_below_calls (n e : Int) (w : World) : Calls Try.prog 31 #[.int .i64 n, .int .i64 e] w (Says (Blw n e) w) := by
  by_cases h0 : 0 ≤ n
  · by_cases h1 : n < e
    · go_enter Try.func31, Try.ntmps31
      go_wp2
      go_ret
      exact Says.yes ⟨h0, h1⟩ (More.refl _)
    · go_enter Try.func31, Try.ntmps31
      go_wp2
      go_ret
      exact Says.no (fun h => by have := h.2; omega) (More.refl _)
  · go_enter Try.func31, Try.ntmps31
    go_wp2
    go_ret
    exact Says.no (fun h => by have := h.1; omega) (More.refl _)

theorem place_calls (ra : Option Addr) (rl rc : Nat) (ca : Option Addr) (cl cc : Nat) (code regs : Int) (n : Int) (w : World) :
    Calls Try.prog 33 #[.agg #[.slice ra rl rc, .slice ca cl cc, .int .i64 code, .int .i64 regs], .int .i64 n] w (Says (Plc cl n) w) := by
  go_enter Try.func33, Try.ntmps33
  go_wp2_with (fail)
  refine (lay_below_calls _ _ _).mono ?_
  rintro e w1 ⟨r, rfl, hr, m⟩
  have Hr : Hid ((r = true ↔ Plc cl n) ∧ More w w1) := ⟨hr, ((More.refl _).alloc _ _).trans m⟩
  clear hr m
  go_wp2
  go_ret
  exact ⟨r, rfl, Hr.out.1, Hr.out.2⟩

theorem condition_calls (c : Int) (w : World) : Calls Try.prog 34 #[.int .i64 c] w (Says (Btw 1 4 c) w) := by
  by_cases h0 : 1 ≤ c
  · by_cases h1 : c ≤ 4
    · go_enter Try.func34, Try.ntmps34
      go_wp2
      go_ret
      exact Says.yes ⟨h0, h1⟩ (More.refl _)
    · go_enter Try.func34, Try.ntmps34
      go_wp2
      go_ret
      exact Says.no (fun h => by have := h.2; omega) (More.refl _)
  · go_enter Try.func34, Try.ntmps34
    go_wp2
    go_ret
    exact Says.no (fun h => by have := h.1; omega) (More.refl _)

theorem operation_calls (c : Int) (w : World) : Calls Try.prog 35 #[.int .i64 c] w (Says (Btw 21 30 c) w) := by
  by_cases h0 : 21 ≤ c
  · by_cases h1 : c ≤ 30
    · go_enter Try.func35, Try.ntmps35
      go_wp2
      go_ret
      exact Says.yes ⟨h0, h1⟩ (More.refl _)
    · go_enter Try.func35, Try.ntmps35
      go_wp2
      go_ret
      exact Says.no (fun h => by have := h.2; omega) (More.refl _)
  · go_enter Try.func35, Try.ntmps35
    go_wp2
    go_ret
    exact Says.no (fun h => by have := h.1; omega) (More.refl _)

theorem words_lit (l : Int) (h0 : 0 ≤ l) (h1 : l ≤ 6) (n : Int) (hn : n = wordsI l) (s : Bool) (w : World) :
    Calls Try.prog 32 #[.agg #[.int .i64 l, .bool s]] w fun e w' => e = .returned (.int .i64 n) ∧ More w w' := by
  have : l = 0 ∨ l = 1 ∨ l = 2 ∨ l = 3 ∨ l = 4 ∨ l = 5 ∨ l = 6 := by omega
  clear h0 h1
  rcases this with rfl | rfl | rfl | rfl | rfl | rfl | rfl
  all_goals
    simp [wordsI] at hn
    subst hn
    go_enter Try.func32, Try.ntmps32
    go_wp2
    go_ret
    exact ⟨rfl, (More.refl _).alloc _ _⟩

theorem words_calls (l : Int) (h0 : 0 ≤ l) (h1 : l ≤ 6) (s : Bool) (w : World) :
    Calls Try.prog 32 #[.agg #[.int .i64 l, .bool s]] w fun e w' => e = .returned (.int .i64 (wordsI l)) ∧ More w w' :=
  words_lit l h0 h1 _ rfl s w

end Go.Proofs.Ytifdalddchmlmaa
