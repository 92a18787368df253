/-
  What layout's fieldsAllowed comes to, operation by operation.
-/
import Derived.Test.YtifdalddchmlmaaRows
import Derived.WalkKit
import Derived.Deep.RegionHeld3
import Derived.Test.YtifdalddchmlmaaRegions
namespace Go.Proofs.Ytifdalddchmlmaa
open Go.RowKit

/-- What the named fields must be. -/
def FieldsOk (rl : Nat) (log : Nat → Int) (cl : Nat) (regs op a b c n : Int) : Prop :=
  if op = 1 then Reg regs a
  else if op = 2 then Reg regs a ∧ Reg regs b
  else if op = 3 then (Reg regs a ∧ Reg regs b) ∧ Rgn rl c
  else if op = 4 then (Reg regs a ∧ Reg regs b) ∧ Rgn rl c
  else if op = 5 then Reg regs a ∧ Rgn rl c ∧ Wrd log c n
  else if op = 6 then Reg regs a ∧ Rgn rl c ∧ Wrd log c n
  else if op = 7 then Plc cl n
  else if op = 8 then (Reg regs a ∧ Reg regs b) ∧ Btw 1 4 c ∧ Plc cl n
  else if op = 9 then Reg regs a
  else if op = 10 then Reg regs a ∧ Reg regs b
  else if op = 11 then Reg regs a ∧ Btw 1 64 n
  else if op = 12 then True
  else Btw 21 30 op ∧ Reg regs a ∧ Reg regs b ∧ Reg regs c

theorem registers1 (ra : Option Addr) (rl rc : Nat) (ca : Option Addr) (cl cc : Nat) (code regs : Int) (g c : Nat) (x : Int) (w : World) (h0 : w.cell? ⟨g, 0, none⟩ = some (.int .i64 x)) :
    Calls Try.prog 29 #[.agg #[.slice ra rl rc, .slice ca cl cc, .int .i64 code, .int .i64 regs], .slice (some ⟨g, 0, none⟩) 1 c] w (Says (Reg regs x) w) := by
  refine (registers_calls ra rl rc ca cl cc code regs g 1 c (by omega) (fun _ => x) w (fun i hi => ?_)).mono ?_
  · obtain rfl : i = 0 := by omega
    exact h0
  · rintro e w' ⟨r, rfl, hr, m⟩
    exact ⟨r, rfl, hr.trans ⟨fun h => h 0 (by omega), fun h _ _ => h⟩, m⟩

theorem registers2 (ra : Option Addr) (rl rc : Nat) (ca : Option Addr) (cl cc : Nat) (code regs : Int) (g c : Nat) (x y : Int) (w : World) (h0 : w.cell? ⟨g, 0, none⟩ = some (.int .i64 x)) (h1 : w.cell? ⟨g, 1, none⟩ = some (.int .i64 y)) :
    Calls Try.prog 29 #[.agg #[.slice ra rl rc, .slice ca cl cc, .int .i64 code, .int .i64 regs], .slice (some ⟨g, 0, none⟩) 2 c] w (Says (Reg regs x ∧ Reg regs y) w) := by
  refine (registers_calls ra rl rc ca cl cc code regs g 2 c (by omega) (fun i => if i = 0 then x else y) w (fun i hi => ?_)).mono ?_
  · have : i = 0 ∨ i = 1 := by omega
    rcases this with rfl | rfl
    · exact h0
    · exact h1
  · rintro e w' ⟨r, rfl, hr, m⟩
    refine ⟨r, rfl, hr.trans ⟨fun h => ⟨h 0 (by omega), h 1 (by omega)⟩, fun h i hi => ?_⟩, m⟩
    have : i = 0 ∨ i = 1 := by omega
    rcases this with rfl | rfl
    · exact h.1
    · exact h.2

theorem registers3 (ra : Option Addr) (rl rc : Nat) (ca : Option Addr) (cl cc : Nat) (code regs : Int) (g c : Nat) (x y z : Int) (w : World) (h0 : w.cell? ⟨g, 0, none⟩ = some (.int .i64 x)) (h1 : w.cell? ⟨g, 1, none⟩ = some (.int .i64 y)) (h2 : w.cell? ⟨g, 2, none⟩ = some (.int .i64 z)) :
    Calls Try.prog 29 #[.agg #[.slice ra rl rc, .slice ca cl cc, .int .i64 code, .int .i64 regs], .slice (some ⟨g, 0, none⟩) 3 c] w (Says (Reg regs x ∧ Reg regs y ∧ Reg regs z) w) := by
  refine (registers_calls ra rl rc ca cl cc code regs g 3 c (by omega) (fun i => if i = 0 then x else if i = 1 then y else z) w (fun i hi => ?_)).mono ?_
  · have : i = 0 ∨ i = 1 ∨ i = 2 := by omega
    rcases this with rfl | rfl | rfl
    · exact h0
    · exact h1
    · exact h2
  · rintro e w' ⟨r, rfl, hr, m⟩
    refine ⟨r, rfl, hr.trans ⟨fun h => ⟨h 0 (by omega), h 1 (by omega), h 2 (by omega)⟩, fun h i hi => ?_⟩, m⟩
    have : i = 0 ∨ i = 1 ∨ i = 2 := by omega
    rcases this with rfl | rfl | rfl
    · exact h.1
    · exact h.2.1
    · exact h.2.2

/-- The two boxes of the receiver and of the instruction, in a world that has grown since. -/
theorem boxes {w w1 : World} {x0 x1 x2 x3 y0 y1 y2 y3 y4 : Value} {t u : TypeId} (m : More ((w.alloc (.cells #[x0, x1, x2, x3] t)).alloc (.cells #[y0, y1, y2, y3, y4] u)) w1) :
    (w1.cell? ⟨w.heap.size, 0, none⟩ = some x0 ∧ w1.cell? ⟨w.heap.size, 1, none⟩ = some x1 ∧ w1.cell? ⟨w.heap.size, 2, none⟩ = some x2 ∧ w1.cell? ⟨w.heap.size, 3, none⟩ = some x3) ∧
    w1.cell? ⟨w.heap.size + 1, 0, none⟩ = some y0 ∧ w1.cell? ⟨w.heap.size + 1, 1, none⟩ = some y1 ∧ w1.cell? ⟨w.heap.size + 1, 2, none⟩ = some y2 ∧ w1.cell? ⟨w.heap.size + 1, 3, none⟩ = some y3 ∧ w1.cell? ⟨w.heap.size + 1, 4, none⟩ = some y4 := by
  refine ⟨⟨m.cell (by go_simp), m.cell (by go_simp), m.cell (by go_simp), m.cell (by go_simp)⟩, m.cell (by go_simp), m.cell (by go_simp), m.cell (by go_simp), m.cell (by go_simp), m.cell (by go_simp)⟩

theorem fields_1 (ra : Option Addr) (rl rc : Nat) (ca : Option Addr) (cl cc : Nat) (code regs : Int) (a b c n : Int) (w : World) :
    Calls Try.prog 26 #[.agg #[.slice ra rl rc, .slice ca cl cc, .int .i64 code, .int .i64 regs], .agg #[.int .i64 1, .int .i64 a, .int .i64 b, .int .i64 c, .int .i64 n]] w (Says (Reg regs a) w) := by
  go_enter Try.func26, Try.ntmps26
  go_wp2_with (fail)
  refine (registers1 ra rl rc ca cl cc code regs _ _ a _ (by go_simp)).mono ?_
  rintro e w1 ⟨r, rfl, hr, m⟩
  have Hr : Hid ((r = true ↔ Reg regs a) ∧ More w w1) := ⟨hr, ((((More.refl _).alloc _ _).alloc _ _).alloc _ _).trans m⟩
  clear hr m
  go_wp2
  go_ret
  exact ⟨r, rfl, Hr.out.1, Hr.out.2⟩

theorem fields_9 (ra : Option Addr) (rl rc : Nat) (ca : Option Addr) (cl cc : Nat) (code regs : Int) (a b c n : Int) (w : World) :
    Calls Try.prog 26 #[.agg #[.slice ra rl rc, .slice ca cl cc, .int .i64 code, .int .i64 regs], .agg #[.int .i64 9, .int .i64 a, .int .i64 b, .int .i64 c, .int .i64 n]] w (Says (Reg regs a) w) := by
  go_enter Try.func26, Try.ntmps26
  go_wp2_with (fail)
  refine (registers1 ra rl rc ca cl cc code regs _ _ a _ (by go_simp)).mono ?_
  rintro e w1 ⟨r, rfl, hr, m⟩
  have Hr : Hid ((r = true ↔ Reg regs a) ∧ More w w1) := ⟨hr, ((((More.refl _).alloc _ _).alloc _ _).alloc _ _).trans m⟩
  clear hr m
  go_wp2
  go_ret
  exact ⟨r, rfl, Hr.out.1, Hr.out.2⟩

theorem fields_2 (ra : Option Addr) (rl rc : Nat) (ca : Option Addr) (cl cc : Nat) (code regs : Int) (a b c n : Int) (w : World) :
    Calls Try.prog 26 #[.agg #[.slice ra rl rc, .slice ca cl cc, .int .i64 code, .int .i64 regs], .agg #[.int .i64 2, .int .i64 a, .int .i64 b, .int .i64 c, .int .i64 n]] w (Says (Reg regs a ∧ Reg regs b) w) := by
  go_enter Try.func26, Try.ntmps26
  go_wp2_with (fail)
  refine (registers2 ra rl rc ca cl cc code regs _ _ a b _ (by go_simp) (by go_simp)).mono ?_
  rintro e w1 ⟨r, rfl, hr, m⟩
  have Hr : Hid ((r = true ↔ Reg regs a ∧ Reg regs b) ∧ More w w1) := ⟨hr, ((((More.refl _).alloc _ _).alloc _ _).alloc _ _).trans m⟩
  clear hr m
  go_wp2
  go_ret
  exact ⟨r, rfl, Hr.out.1, Hr.out.2⟩

theorem fields_10 (ra : Option Addr) (rl rc : Nat) (ca : Option Addr) (cl cc : Nat) (code regs : Int) (a b c n : Int) (w : World) :
    Calls Try.prog 26 #[.agg #[.slice ra rl rc, .slice ca cl cc, .int .i64 code, .int .i64 regs], .agg #[.int .i64 10, .int .i64 a, .int .i64 b, .int .i64 c, .int .i64 n]] w (Says (Reg regs a ∧ Reg regs b) w) := by
  go_enter Try.func26, Try.ntmps26
  go_wp2_with (fail)
  refine (registers2 ra rl rc ca cl cc code regs _ _ a b _ (by go_simp) (by go_simp)).mono ?_
  rintro e w1 ⟨r, rfl, hr, m⟩
  have Hr : Hid ((r = true ↔ Reg regs a ∧ Reg regs b) ∧ More w w1) := ⟨hr, ((((More.refl _).alloc _ _).alloc _ _).alloc _ _).trans m⟩
  clear hr m
  go_wp2
  go_ret
  exact ⟨r, rfl, Hr.out.1, Hr.out.2⟩

theorem fields_3 (ra : Option Addr) (rl rc : Nat) (ca : Option Addr) (cl cc : Nat) (code regs : Int) (a b c n : Int) (w : World) :
    Calls Try.prog 26 #[.agg #[.slice ra rl rc, .slice ca cl cc, .int .i64 code, .int .i64 regs], .agg #[.int .i64 3, .int .i64 a, .int .i64 b, .int .i64 c, .int .i64 n]] w (Says ((Reg regs a ∧ Reg regs b) ∧ Rgn rl c) w) := by
  go_enter Try.func26, Try.ntmps26
  go_wp2_with (fail)
  refine (registers2 ra rl rc ca cl cc code regs _ _ a b _ (by go_simp) (by go_simp)).mono ?_
  rintro e w1 ⟨r, rfl, hr, m⟩
  obtain ⟨⟨c0, c1, c2, c3⟩, d0, d1, d2, d3, d4⟩ := boxes (((More.refl _).alloc _ _).trans m)
  have m' := ((((More.refl _).alloc _ _).alloc _ _).alloc _ _).trans m
  have Hm : Hid (More w w1) := m'
  clear m m'
  cases r with
  | false =>
    have Hr : Hid (¬ (Reg regs a ∧ Reg regs b)) := fun h => by simpa using hr.2 h
    clear hr
    go_wp2
    go_ret
    exact Says.no (fun h => Hr.out h.1) Hm.out
  | true =>
    have Hr : Hid (Reg regs a ∧ Reg regs b) := hr.1 rfl
    clear hr
    go_wp2_with (fail)
    refine (region_calls ra rl rc ca cl cc code regs c _).mono ?_
    rintro e w2 ⟨r2, rfl, hr2, m2⟩
    have H2 : Hid ((r2 = true ↔ Rgn rl c) ∧ More w1 w2) := ⟨hr2, m2⟩
    clear hr2 m2
    go_wp2
    go_ret
    exact ⟨r2, rfl, H2.out.1.trans ⟨fun h => ⟨Hr.out, h⟩, fun h => h.2⟩, Hm.out.trans H2.out.2⟩

theorem fields_4 (ra : Option Addr) (rl rc : Nat) (ca : Option Addr) (cl cc : Nat) (code regs : Int) (a b c n : Int) (w : World) :
    Calls Try.prog 26 #[.agg #[.slice ra rl rc, .slice ca cl cc, .int .i64 code, .int .i64 regs], .agg #[.int .i64 4, .int .i64 a, .int .i64 b, .int .i64 c, .int .i64 n]] w (Says ((Reg regs a ∧ Reg regs b) ∧ Rgn rl c) w) := by
  go_enter Try.func26, Try.ntmps26
  go_wp2_with (fail)
  refine (registers2 ra rl rc ca cl cc code regs _ _ a b _ (by go_simp) (by go_simp)).mono ?_
  rintro e w1 ⟨r, rfl, hr, m⟩
  obtain ⟨⟨c0, c1, c2, c3⟩, d0, d1, d2, d3, d4⟩ := boxes (((More.refl _).alloc _ _).trans m)
  have m' := ((((More.refl _).alloc _ _).alloc _ _).alloc _ _).trans m
  have Hm : Hid (More w w1) := m'
  clear m m'
  cases r with
  | false =>
    have Hr : Hid (¬ (Reg regs a ∧ Reg regs b)) := fun h => by simpa using hr.2 h
    clear hr
    go_wp2
    go_ret
    exact Says.no (fun h => Hr.out h.1) Hm.out
  | true =>
    have Hr : Hid (Reg regs a ∧ Reg regs b) := hr.1 rfl
    clear hr
    go_wp2_with (fail)
    refine (region_calls ra rl rc ca cl cc code regs c _).mono ?_
    rintro e w2 ⟨r2, rfl, hr2, m2⟩
    have H2 : Hid ((r2 = true ↔ Rgn rl c) ∧ More w1 w2) := ⟨hr2, m2⟩
    clear hr2 m2
    go_wp2
    go_ret
    exact ⟨r2, rfl, H2.out.1.trans ⟨fun h => ⟨Hr.out, h⟩, fun h => h.2⟩, Hm.out.trans H2.out.2⟩

theorem fields_7 (ra : Option Addr) (rl rc : Nat) (ca : Option Addr) (cl cc : Nat) (code regs : Int) (a b c n : Int) (w : World) :
    Calls Try.prog 26 #[.agg #[.slice ra rl rc, .slice ca cl cc, .int .i64 code, .int .i64 regs], .agg #[.int .i64 7, .int .i64 a, .int .i64 b, .int .i64 c, .int .i64 n]] w (Says (Plc cl n) w) := by
  go_enter Try.func26, Try.ntmps26
  go_wp2_with (fail)
  refine (place_calls ra rl rc ca cl cc code regs n _).mono ?_
  rintro e w1 ⟨r, rfl, hr, m⟩
  have Hr : Hid ((r = true ↔ Plc cl n) ∧ More w w1) := ⟨hr, (((More.refl _).alloc _ _).alloc _ _).trans m⟩
  clear hr m
  go_wp2
  go_ret
  exact ⟨r, rfl, Hr.out.1, Hr.out.2⟩

theorem fields_8 (ra : Option Addr) (rl rc : Nat) (ca : Option Addr) (cl cc : Nat) (code regs : Int) (a b c n : Int) (w : World) :
    Calls Try.prog 26 #[.agg #[.slice ra rl rc, .slice ca cl cc, .int .i64 code, .int .i64 regs], .agg #[.int .i64 8, .int .i64 a, .int .i64 b, .int .i64 c, .int .i64 n]] w (Says ((Reg regs a ∧ Reg regs b) ∧ Btw 1 4 c ∧ Plc cl n) w) := by
  go_enter Try.func26, Try.ntmps26
  go_wp2_with (fail)
  refine (registers2 ra rl rc ca cl cc code regs _ _ a b _ (by go_simp) (by go_simp)).mono ?_
  rintro e w1 ⟨r, rfl, hr, m⟩
  obtain ⟨⟨c0, c1, c2, c3⟩, d0, d1, d2, d3, d4⟩ := boxes (((More.refl _).alloc _ _).trans m)
  have m' := ((((More.refl _).alloc _ _).alloc _ _).alloc _ _).trans m
  have Hm : Hid (More w w1) := m'
  clear m m'
  cases r with
  | false =>
    have Hr : Hid (¬ (Reg regs a ∧ Reg regs b)) := fun h => by simpa using hr.2 h
    clear hr
    go_wp2
    go_ret
    exact Says.no (fun h => Hr.out h.1) Hm.out
  | true =>
    have Hr : Hid (Reg regs a ∧ Reg regs b) := hr.1 rfl
    clear hr
    go_wp2_with (fail)
    refine (condition_calls c _).mono ?_
    rintro e w2 ⟨r2, rfl, hr2, m2⟩
    have e0 := m2.cell c0
    have e1 := m2.cell c1
    have e2 := m2.cell c2
    have e3 := m2.cell c3
    have e4 := m2.cell d4
    clear c0 c1 c2 c3 d0 d1 d2 d3 d4
    have H2m : Hid (More w1 w2) := m2
    clear m2
    cases r2 with
    | false =>
      have H2 : Hid (¬ Btw 1 4 c) := fun h => by simpa using hr2.2 h
      clear hr2
      go_wp2
      go_ret
      exact Says.no (fun h => H2.out h.2.1) (Hm.out.trans H2m.out)
    | true =>
      have H2 : Hid (Btw 1 4 c) := hr2.1 rfl
      clear hr2
      go_wp2_with (fail)
      refine (place_calls ra rl rc ca cl cc code regs n _).mono ?_
      rintro e w3 ⟨r3, rfl, hr3, m3⟩
      have H3 : Hid ((r3 = true ↔ Plc cl n) ∧ More w2 w3) := ⟨hr3, m3⟩
      clear hr3 m3
      go_wp2
      go_ret
      exact ⟨r3, rfl, H3.out.1.trans ⟨fun h => ⟨Hr.out, H2.out, h⟩, fun h => h.2.2⟩, (Hm.out.trans H2m.out).trans H3.out.2⟩

theorem fields_11 (ra : Option Addr) (rl rc : Nat) (ca : Option Addr) (cl cc : Nat) (code regs : Int) (a b c n : Int) (w : World) :
    Calls Try.prog 26 #[.agg #[.slice ra rl rc, .slice ca cl cc, .int .i64 code, .int .i64 regs], .agg #[.int .i64 11, .int .i64 a, .int .i64 b, .int .i64 c, .int .i64 n]] w (Says (Reg regs a ∧ Btw 1 64 n) w) := by
  go_enter Try.func26, Try.ntmps26
  go_wp2_with (fail)
  refine (registers1 ra rl rc ca cl cc code regs _ _ a _ (by go_simp)).mono ?_
  rintro e w1 ⟨r, rfl, hr, m⟩
  obtain ⟨⟨c0, c1, c2, c3⟩, d0, d1, d2, d3, d4⟩ := boxes (((More.refl _).alloc _ _).trans m)
  have m' := ((((More.refl _).alloc _ _).alloc _ _).alloc _ _).trans m
  have Hm : Hid (More w w1) := m'
  clear m m'
  cases r with
  | false =>
    have Hr : Hid (¬ (Reg regs a)) := fun h => by simpa using hr.2 h
    clear hr
    go_wp2
    go_ret
    exact Says.no (fun h => Hr.out h.1) Hm.out
  | true =>
    have Hr : Hid (Reg regs a) := hr.1 rfl
    clear hr
    by_cases h0 : 1 ≤ n
    · by_cases h1 : n ≤ 64
      · go_wp2
        go_ret
        exact Says.yes ⟨Hr.out, h0, h1⟩ Hm.out
      · go_wp2
        go_ret
        exact ⟨_, rfl, ⟨fun h => by simp at h <;> omega, fun h => by have := h.2.2; omega⟩, Hm.out⟩
    · go_wp2
      go_ret
      exact Says.no (fun h => by have := h.2.1; omega) Hm.out

theorem fields_12 (ra : Option Addr) (rl rc : Nat) (ca : Option Addr) (cl cc : Nat) (code regs : Int) (a b c n : Int) (w : World) :
    Calls Try.prog 26 #[.agg #[.slice ra rl rc, .slice ca cl cc, .int .i64 code, .int .i64 regs], .agg #[.int .i64 12, .int .i64 a, .int .i64 b, .int .i64 c, .int .i64 n]] w (Says (True) w) := by
  go_enter Try.func26, Try.ntmps26
  go_wp2
  go_ret
  exact Says.yes trivial (((More.refl _).alloc _ _).alloc _ _)

theorem fields_else (ra : Option Addr) (rl rc : Nat) (ca : Option Addr) (cl cc : Nat) (code regs : Int) (op a b c n : Int) (h1 : ¬ op = 1) (h2 : ¬ op = 2) (h3 : ¬ op = 3) (h4 : ¬ op = 4) (h5 : ¬ op = 5) (h6 : ¬ op = 6) (h7 : ¬ op = 7) (h8 : ¬ op = 8) (h9 : ¬ op = 9) (h10 : ¬ op = 10) (h11 : ¬ op = 11) (h12 : ¬ op = 12) (w : World) :
    Calls Try.prog 26 #[.agg #[.slice ra rl rc, .slice ca cl cc, .int .i64 code, .int .i64 regs], .agg #[.int .i64 op, .int .i64 a, .int .i64 b, .int .i64 c, .int .i64 n]] w (Says (Btw 21 30 op ∧ Reg regs a ∧ Reg regs b ∧ Reg regs c) w) := by
  go_enter Try.func26, Try.ntmps26
  go_wp2_with (fail)
  clear h1 h2 h3 h4 h5 h6 h7 h8 h9 h10 h11 h12
  refine (operation_calls op _).mono ?_
  rintro e w1 ⟨r, rfl, hr, m⟩
  obtain ⟨⟨c0, c1, c2, c3⟩, d0, d1, d2, d3, d4⟩ := boxes m
  have Hm : Hid (More w w1) := (((More.refl _).alloc _ _).alloc _ _).trans m
  clear m
  cases r with
  | false =>
    have Hr : Hid (¬ (Btw 21 30 op)) := fun h => by simpa using hr.2 h
    clear hr
    go_wp2
    go_ret
    exact Says.no (fun h => Hr.out h.1) Hm.out
  | true =>
    have Hr : Hid (Btw 21 30 op) := hr.1 rfl
    clear hr
    go_wp2_with (fail)
    refine (registers3 ra rl rc ca cl cc code regs _ _ a b c _ (by go_simp) (by go_simp) (by go_simp)).mono ?_
    rintro e w2 ⟨r2, rfl, hr2, m2⟩
    have H2 : Hid ((r2 = true ↔ Reg regs a ∧ Reg regs b ∧ Reg regs c) ∧ More w1 w2) := ⟨hr2, ((More.refl _).alloc _ _).trans m2⟩
    clear hr2 m2
    go_wp2
    go_ret
    exact ⟨r2, rfl, H2.out.1.trans ⟨fun h => ⟨Hr.out, h⟩, fun h => h.2⟩, Hm.out.trans H2.out.2⟩

end Go.Proofs.Ytifdalddchmlmaa
