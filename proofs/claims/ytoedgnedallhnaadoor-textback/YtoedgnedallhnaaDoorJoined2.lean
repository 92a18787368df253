/-
  The texts Fields, FieldsK, Named, FieldsAll, Code, Hard, Open, TbPrint, CelM, TxReads, TxMem, Shape, InsBox, InsA, one behind the other, with what is used of them.
-/
import Derived.Test.YtoedgnedallhnaaDoorRows
import Derived.WalkKit
import Derived.Deep.RegionHeld3
import Derived.Test.YtoedgnedallhnaaDoorJoined1
import Derived.Test.YtoedgnedallhnaaDoorJoined0
import Derived.Deep.LoopGhost
import Derived.ProofKit
import Derived.OpenShut
import Derived.Deep.Slices
import Derived.Deep.SlicePairs
import Derived.Deep.Matrix
import Derived.Lib.SmallJoins
import Derived.Deep.AppendLies
import Derived.Deep.OwnRows
import Derived.Laws.AppendOwn
namespace Go.Proofs.YtoedgnedallhnaaDoor
section
open Go.RowKit
/-- What the named fields must be. -/
def FieldsOk (rl : Nat) (log : Nat → Int) (cl : Nat) (regs op a b c n : Int) : Prop :=
  if op = 1 then Reg regs a
  else if op = 2 then Reg regs a ∧ Reg regs b
  else if op = 3 then (Reg regs a ∧ Reg regs b) ∧ Rgn rl c
  else if op = 4 then (Reg regs a ∧ Reg regs b) ∧ Rgn rl c
  else if op = 5 then Reg regs a ∧ Rgn rl c ∧ Wrd log c n
  else if op = 6 then Reg regs a ∧ Rgn rl c ∧ Wrd log c n
  else if op = 7 then Plc cl n
  else if op = 8 then (Reg regs a ∧ Reg regs b) ∧ Btw 1 4 c ∧ Plc cl n
  else if op = 9 then Reg regs a
  else if op = 10 then Reg regs a ∧ Reg regs b
  else if op = 11 then Reg regs a ∧ Btw 1 64 n
  else if op = 12 then True
  else Btw 21 30 op ∧ Reg regs a ∧ Reg regs b ∧ Reg regs c

theorem registers1 (ra : Option Addr) (rl rc : Nat) (ca : Option Addr) (cl cc : Nat) (code regs : Int) (g c : Nat) (x : Int) (w : World) (h0 : w.cell? ⟨g, 0, none⟩ = some (.int .i64 x)) :
    Calls Tryd.prog 66 #[.agg #[.slice ra rl rc, .slice ca cl cc, .int .i64 code, .int .i64 regs], .slice (some ⟨g, 0, none⟩) 1 c] w (Says (Reg regs x) w) := by
  refine (registers_calls ra rl rc ca cl cc code regs g 1 c (by omega) (fun _ => x) w (fun i hi => ?_)).mono ?_
  · obtain rfl : i = 0 := by omega
    exact h0
  · rintro e w' ⟨r, rfl, hr, m⟩
    exact ⟨r, rfl, hr.trans ⟨fun h => h 0 (by omega), fun h _ _ => h⟩, m⟩

theorem registers2 (ra : Option Addr) (rl rc : Nat) (ca : Option Addr) (cl cc : Nat) (code regs : Int) (g c : Nat) (x y : Int) (w : World) (h0 : w.cell? ⟨g, 0, none⟩ = some (.int .i64 x)) (h1 : w.cell? ⟨g, 1, none⟩ = some (.int .i64 y)) :
    Calls Tryd.prog 66 #[.agg #[.slice ra rl rc, .slice ca cl cc, .int .i64 code, .int .i64 regs], .slice (some ⟨g, 0, none⟩) 2 c] w (Says (Reg regs x ∧ Reg regs y) w) := by
  refine (registers_calls ra rl rc ca cl cc code regs g 2 c (by omega) (fun i => if i = 0 then x else y) w (fun i hi => ?_)).mono ?_
  · have : i = 0 ∨ i = 1 := by omega
    rcases this with rfl | rfl
    · exact h0
    · exact h1
  · rintro e w' ⟨r, rfl, hr, m⟩
    refine ⟨r, rfl, hr.trans ⟨fun h => ⟨h 0 (by omega), h 1 (by omega)⟩, fun h i hi => ?_⟩, m⟩
    have : i = 0 ∨ i = 1 := by omega
    rcases this with rfl | rfl
    · exact h.1
    · exact h.2

theorem registers3 (ra : Option Addr) (rl rc : Nat) (ca : Option Addr) (cl cc : Nat) (code regs : Int) (g c : Nat) (x y z : Int) (w : World) (h0 : w.cell? ⟨g, 0, none⟩ = some (.int .i64 x)) (h1 : w.cell? ⟨g, 1, none⟩ = some (.int .i64 y)) (h2 : w.cell? ⟨g, 2, none⟩ = some (.int .i64 z)) :
    Calls Tryd.prog 66 #[.agg #[.slice ra rl rc, .slice ca cl cc, .int .i64 code, .int .i64 regs], .slice (some ⟨g, 0, none⟩) 3 c] w (Says (Reg regs x ∧ Reg regs y ∧ Reg regs z) w) := by
  refine (registers_calls ra rl rc ca cl cc code regs g 3 c (by omega) (fun i => if i = 0 then x else if i = 1 then y else z) w (fun i hi => ?_)).mono ?_
  · have : i = 0 ∨ i = 1 ∨ i = 2 := by omega
    rcases this with rfl | rfl | rfl
    · exact h0
    · exact h1
    · exact h2
  · rintro e w' ⟨r, rfl, hr, m⟩
    refine ⟨r, rfl, hr.trans ⟨fun h => ⟨h 0 (by omega), h 1 (by omega), h 2 (by omega)⟩, fun h i hi => ?_⟩, m⟩
    have : i = 0 ∨ i = 1 ∨ i = 2 := by omega
    rcases this with rfl | rfl | rfl
    · exact h.1
    · exact h.2.1
    · exact h.2.2

/-- The two boxes of the receiver and of the instruction, in a world that has grown since. -/
theorem boxes {w w1 : World} {x0 x1 x2 x3 y0 y1 y2 y3 y4 : Value} {t u : TypeId} (m : More ((w.alloc (.cells #[x0, x1, x2, x3] t)).alloc (.cells #[y0, y1, y2, y3, y4] u)) w1) :
    (w1.cell? ⟨w.heap.size, 0, none⟩ = some x0 ∧ w1.cell? ⟨w.heap.size, 1, none⟩ = some x1 ∧ w1.cell? ⟨w.heap.size, 2, none⟩ = some x2 ∧ w1.cell? ⟨w.heap.size, 3, none⟩ = some x3) ∧
    w1.cell? ⟨w.heap.size + 1, 0, none⟩ = some y0 ∧ w1.cell? ⟨w.heap.size + 1, 1, none⟩ = some y1 ∧ w1.cell? ⟨w.heap.size + 1, 2, none⟩ = some y2 ∧ w1.cell? ⟨w.heap.size + 1, 3, none⟩ = some y3 ∧ w1.cell? ⟨w.heap.size + 1, 4, none⟩ = some y4 := by
  refine ⟨⟨m.cell (by go_simp), m.cell (by go_simp), m.cell (by go_simp), m.cell (by go_simp)⟩, m.cell (by go_simp), m.cell (by go_simp), m.cell (by go_simp), m.cell (by go_simp), m.cell (by go_simp)⟩

theorem fields_1 (ra : Option Addr) (rl rc : Nat) (ca : Option Addr) (cl cc : Nat) (code regs : Int) (a b c n : Int) (w : World) :
    Calls Tryd.prog 54 #[.agg #[.slice ra rl rc, .slice ca cl cc, .int .i64 code, .int .i64 regs], .agg #[.int .i64 1, .int .i64 a, .int .i64 b, .int .i64 c, .int .i64 n]] w (Says (Reg regs a) w) := by
  go_enter Tryd.func54, Tryd.ntmps54
  go_wp2_with (fail)
  refine (registers1 ra rl rc ca cl cc code regs _ _ a _ (by go_simp)).mono ?_
  rintro e w1 ⟨r, rfl, hr, m⟩
  have Hr : Hid ((r = true ↔ Reg regs a) ∧ More w w1) := ⟨hr, ((((More.refl _).alloc _ _).alloc _ _).alloc _ _).trans m⟩
  clear hr m
  go_wp2
  go_ret
  exact ⟨r, rfl, Hr.out.1, Hr.out.2⟩

theorem fields_9 (ra : Option Addr) (rl rc : Nat) (ca : Option Addr) (cl cc : Nat) (code regs : Int) (a b c n : Int) (w : World) :
    Calls Tryd.prog 54 #[.agg #[.slice ra rl rc, .slice ca cl cc, .int .i64 code, .int .i64 regs], .agg #[.int .i64 9, .int .i64 a, .int .i64 b, .int .i64 c, .int .i64 n]] w (Says (Reg regs a) w) := by
  go_enter Tryd.func54, Tryd.ntmps54
  go_wp2_with (fail)
  refine (registers1 ra rl rc ca cl cc code regs _ _ a _ (by go_simp)).mono ?_
  rintro e w1 ⟨r, rfl, hr, m⟩
  have Hr : Hid ((r = true ↔ Reg regs a) ∧ More w w1) := ⟨hr, ((((More.refl _).alloc _ _).alloc _ _).alloc _ _).trans m⟩
  clear hr m
  go_wp2
  go_ret
  exact ⟨r, rfl, Hr.out.1, Hr.out.2⟩

theorem fields_2 (ra : Option Addr) (rl rc : Nat) (ca : Option Addr) (cl cc : Nat) (code regs : Int) (a b c n : Int) (w : World) :
    Calls Tryd.prog 54 #[.agg #[.slice ra rl rc, .slice ca cl cc, .int .i64 code, .int .i64 regs], .agg #[.int .i64 2, .int .i64 a, .int .i64 b, .int .i64 c, .int .i64 n]] w (Says (Reg regs a ∧ Reg regs b) w) := by
  go_enter Tryd.func54, Tryd.ntmps54
  go_wp2_with (fail)
  refine (registers2 ra rl rc ca cl cc code regs _ _ a b _ (by go_simp) (by go_simp)).mono ?_
  rintro e w1 ⟨r, rfl, hr, m⟩
  have Hr : Hid ((r = true ↔ Reg regs a ∧ Reg regs b) ∧ More w w1) := ⟨hr, ((((More.refl _).alloc _ _).alloc _ _).alloc _ _).trans m⟩
  clear hr m
  go_wp2
  go_ret
  exact ⟨r, rfl, Hr.out.1, Hr.out.2⟩

theorem fields_10 (ra : Option Addr) (rl rc : Nat) (ca : Option Addr) (cl cc : Nat) (code regs : Int) (a b c n : Int) (w : World) :
    Calls Tryd.prog 54 #[.agg #[.slice ra rl rc, .slice ca cl cc, .int .i64 code, .int .i64 regs], .agg #[.int .i64 10, .int .i64 a, .int .i64 b, .int .i64 c, .int .i64 n]] w (Says (Reg regs a ∧ Reg regs b) w) := by
  go_enter Tryd.func54, Tryd.ntmps54
  go_wp2_with (fail)
  refine (registers2 ra rl rc ca cl cc code regs _ _ a b _ (by go_simp) (by go_simp)).mono ?_
  rintro e w1 ⟨r, rfl, hr, m⟩
  have Hr : Hid ((r = true ↔ Reg regs a ∧ Reg regs b) ∧ More w w1) := ⟨hr, ((((More.refl _).alloc _ _).alloc _ _).alloc _ _).trans m⟩
  clear hr m
  go_wp2
  go_ret
  exact ⟨r, rfl, Hr.out.1, Hr.out.2⟩

theorem fields_3 (ra : Option Addr) (rl rc : Nat) (ca : Option Addr) (cl cc : Nat) (code regs : Int) (a b c n : Int) (w : World) :
    Calls Tryd.prog 54 #[.agg #[.slice ra rl rc, .slice ca cl cc, .int .i64 code, .int .i64 regs], .agg #[.int .i64 3, .int .i64 a, .int .i64 b, .int .i64 c, .int .i64 n]] w (Says ((Reg regs a ∧ Reg regs b) ∧ Rgn rl c) w) := by
  go_enter Tryd.func54, Tryd.ntmps54
  go_wp2_with (fail)
  refine (registers2 ra rl rc ca cl cc code regs _ _ a b _ (by go_simp) (by go_simp)).mono ?_
  rintro e w1 ⟨r, rfl, hr, m⟩
  obtain ⟨⟨c0, c1, c2, c3⟩, d0, d1, d2, d3, d4⟩ := boxes (((More.refl _).alloc _ _).trans m)
  have m' := ((((More.refl _).alloc _ _).alloc _ _).alloc _ _).trans m
  have Hm : Hid (More w w1) := m'
  clear m m'
  cases r with
  | false =>
    have Hr : Hid (¬ (Reg regs a ∧ Reg regs b)) := fun h => by simpa using hr.2 h
    clear hr
    go_wp2
    go_ret
    exact Says.no (fun h => Hr.out h.1) Hm.out
  | true =>
    have Hr : Hid (Reg regs a ∧ Reg regs b) := hr.1 rfl
    clear hr
    go_wp2_with (fail)
    refine (region_calls ra rl rc ca cl cc code regs c _).mono ?_
    rintro e w2 ⟨r2, rfl, hr2, m2⟩
    have H2 : Hid ((r2 = true ↔ Rgn rl c) ∧ More w1 w2) := ⟨hr2, m2⟩
    clear hr2 m2
    go_wp2
    go_ret
    exact ⟨r2, rfl, H2.out.1.trans ⟨fun h => ⟨Hr.out, h⟩, fun h => h.2⟩, Hm.out.trans H2.out.2⟩

theorem fields_4 (ra : Option Addr) (rl rc : Nat) (ca : Option Addr) (cl cc : Nat) (code regs : Int) (a b c n : Int) (w : World) :
    Calls Tryd.prog 54 #[.agg #[.slice ra rl rc, .slice ca cl cc, .int .i64 code, .int .i64 regs], .agg #[.int .i64 4, .int .i64 a, .int .i64 b, .int .i64 c, .int .i64 n]] w (Says ((Reg regs a ∧ Reg regs b) ∧ Rgn rl c) w) := by
  go_enter Tryd.func54, Tryd.ntmps54
  go_wp2_with (fail)
  refine (registers2 ra rl rc ca cl cc code regs _ _ a b _ (by go_simp) (by go_simp)).mono ?_
  rintro e w1 ⟨r, rfl, hr, m⟩
  obtain ⟨⟨c0, c1, c2, c3⟩, d0, d1, d2, d3, d4⟩ := boxes (((More.refl _).alloc _ _).trans m)
  have m' := ((((More.refl _).alloc _ _).alloc _ _).alloc _ _).trans m
  have Hm : Hid (More w w1) := m'
  clear m m'
  cases r with
  | false =>
    have Hr : Hid (¬ (Reg regs a ∧ Reg regs b)) := fun h => by simpa using hr.2 h
    clear hr
    go_wp2
    go_ret
    exact Says.no (fun h => Hr.out h.1) Hm.out
  | true =>
    have Hr : Hid (Reg regs a ∧ Reg regs b) := hr.1 rfl
    clear hr
    go_wp2_with (fail)
    refine (region_calls ra rl rc ca cl cc code regs c _).mono ?_
    rintro e w2 ⟨r2, rfl, hr2, m2⟩
    have H2 : Hid ((r2 = true ↔ Rgn rl c) ∧ More w1 w2) := ⟨hr2, m2⟩
    clear hr2 m2
    go_wp2
    go_ret
    exact ⟨r2, rfl, H2.out.1.trans ⟨fun h => ⟨Hr.out, h⟩, fun h => h.2⟩, Hm.out.trans H2.out.2⟩

theorem fields_7 (ra : Option Addr) (rl rc : Nat) (ca : Option Addr) (cl cc : Nat) (code regs : Int) (a b c n : Int) (w : World) :
    Calls Tryd.prog 54 #[.agg #[.slice ra rl rc, .slice ca cl cc, .int .i64 code, .int .i64 regs], .agg #[.int .i64 7, .int .i64 a, .int .i64 b, .int .i64 c, .int .i64 n]] w (Says (Plc cl n) w) := by
  go_enter Tryd.func54, Tryd.ntmps54
  go_wp2_with (fail)
  refine (place_calls ra rl rc ca cl cc code regs n _).mono ?_
  rintro e w1 ⟨r, rfl, hr, m⟩
  have Hr : Hid ((r = true ↔ Plc cl n) ∧ More w w1) := ⟨hr, (((More.refl _).alloc _ _).alloc _ _).trans m⟩
  clear hr m
  go_wp2
  go_ret
  exact ⟨r, rfl, Hr.out.1, Hr.out.2⟩

theorem fields_8 (ra : Option Addr) (rl rc : Nat) (ca : Option Addr) (cl cc : Nat) (code regs : Int) (a b c n : Int) (w : World) :
    Calls Tryd.prog 54 #[.agg #[.slice ra rl rc, .slice ca cl cc, .int .i64 code, .int .i64 regs], .agg #[.int .i64 8, .int .i64 a, .int .i64 b, .int .i64 c, .int .i64 n]] w (Says ((Reg regs a ∧ Reg regs b) ∧ Btw 1 4 c ∧ Plc cl n) w) := by
  go_enter Tryd.func54, Tryd.ntmps54
  go_wp2_with (fail)
  refine (registers2 ra rl rc ca cl cc code regs _ _ a b _ (by go_simp) (by go_simp)).mono ?_
  rintro e w1 ⟨r, rfl, hr, m⟩
  obtain ⟨⟨c0, c1, c2, c3⟩, d0, d1, d2, d3, d4⟩ := boxes (((More.refl _).alloc _ _).trans m)
  have m' := ((((More.refl _).alloc _ _).alloc _ _).alloc _ _).trans m
  have Hm : Hid (More w w1) := m'
  clear m m'
  cases r with
  | false =>
    have Hr : Hid (¬ (Reg regs a ∧ Reg regs b)) := fun h => by simpa using hr.2 h
    clear hr
    go_wp2
    go_ret
    exact Says.no (fun h => Hr.out h.1) Hm.out
  | true =>
    have Hr : Hid (Reg regs a ∧ Reg regs b) := hr.1 rfl
    clear hr
    go_wp2_with (fail)
    refine (condition_calls c _).mono ?_
    rintro e w2 ⟨r2, rfl, hr2, m2⟩
    have e0 := m2.cell c0
    have e1 := m2.cell c1
    have e2 := m2.cell c2
    have e3 := m2.cell c3
    have e4 := m2.cell d4
    clear c0 c1 c2 c3 d0 d1 d2 d3 d4
    have H2m : Hid (More w1 w2) := m2
    clear m2
    cases r2 with
    | false =>
      have H2 : Hid (¬ Btw 1 4 c) := fun h => by simpa using hr2.2 h
      clear hr2
      go_wp2
      go_ret
      exact Says.no (fun h => H2.out h.2.1) (Hm.out.trans H2m.out)
    | true =>
      have H2 : Hid (Btw 1 4 c) := hr2.1 rfl
      clear hr2
      go_wp2_with (fail)
      refine (place_calls ra rl rc ca cl cc code regs n _).mono ?_
      rintro e w3 ⟨r3, rfl, hr3, m3⟩
      have H3 : Hid ((r3 = true ↔ Plc cl n) ∧ More w2 w3) := ⟨hr3, m3⟩
      clear hr3 m3
      go_wp2
      go_ret
      exact ⟨r3, rfl, H3.out.1.trans ⟨fun h => ⟨Hr.out, H2.out, h⟩, fun h => h.2.2⟩, (Hm.out.trans H2m.out).trans H3.out.2⟩

theorem fields_11 (ra : Option Addr) (rl rc : Nat) (ca : Option Addr) (cl cc : Nat) (code regs : Int) (a b c n : Int) (w : World) :
    Calls Tryd.prog 54 #[.agg #[.slice ra rl rc, .slice ca cl cc, .int .i64 code, .int .i64 regs], .agg #[.int .i64 11, .int .i64 a, .int .i64 b, .int .i64 c, .int .i64 n]] w (Says (Reg regs a ∧ Btw 1 64 n) w) := by
  go_enter Tryd.func54, Tryd.ntmps54
  go_wp2_with (fail)
  refine (registers1 ra rl rc ca cl cc code regs _ _ a _ (by go_simp)).mono ?_
  rintro e w1 ⟨r, rfl, hr, m⟩
  obtain ⟨⟨c0, c1, c2, c3⟩, d0, d1, d2, d3, d4⟩ := boxes (((More.refl _).alloc _ _).trans m)
  have m' := ((((More.refl _).alloc _ _).alloc _ _).alloc _ _).trans m
  have Hm : Hid (More w w1) := m'
  clear m m'
  cases r with
  | false =>
    have Hr : Hid (¬ (Reg regs a)) := fun h => by simpa using hr.2 h
    clear hr
    go_wp2
    go_ret
    exact Says.no (fun h => Hr.out h.1) Hm.out
  | true =>
    have Hr : Hid (Reg regs a) := hr.1 rfl
    clear hr
    by_cases h0 : 1 ≤ n
    · by_cases h1 : n ≤ 64
      · go_wp2
        go_ret
        exact Says.yes ⟨Hr.out, h0, h1⟩ Hm.out
      · go_wp2
        go_ret
        exact ⟨_, rfl, ⟨fun h => by simp at h <;> omega, fun h => by have := h.2.2; omega⟩, Hm.out⟩
    · go_wp2
      go_ret
      exact Says.no (fun h => by have := h.2.1; omega) Hm.out

theorem fields_12 (ra : Option Addr) (rl rc : Nat) (ca : Option Addr) (cl cc : Nat) (code regs : Int) (a b c n : Int) (w : World) :
    Calls Tryd.prog 54 #[.agg #[.slice ra rl rc, .slice ca cl cc, .int .i64 code, .int .i64 regs], .agg #[.int .i64 12, .int .i64 a, .int .i64 b, .int .i64 c, .int .i64 n]] w (Says (True) w) := by
  go_enter Tryd.func54, Tryd.ntmps54
  go_wp2
  go_ret
  exact Says.yes trivial (((More.refl _).alloc _ _).alloc _ _)

theorem fields_else (ra : Option Addr) (rl rc : Nat) (ca : Option Addr) (cl cc : Nat) (code regs : Int) (op a b c n : Int) (h1 : ¬ op = 1) (h2 : ¬ op = 2) (h3 : ¬ op = 3) (h4 : ¬ op = 4) (h5 : ¬ op = 5) (h6 : ¬ op = 6) (h7 : ¬ op = 7) (h8 : ¬ op = 8) (h9 : ¬ op = 9) (h10 : ¬ op = 10) (h11 : ¬ op = 11) (h12 : ¬ op = 12) (w : World) :
    Calls Tryd.prog 54 #[.agg #[.slice ra rl rc, .slice ca cl cc, .int .i64 code, .int .i64 regs], .agg #[.int .i64 op, .int .i64 a, .int .i64 b, .int .i64 c, .int .i64 n]] w (Says (Btw 21 30 op ∧ Reg regs a ∧ Reg regs b ∧ Reg regs c) w) := by
  go_enter Tryd.func54, Tryd.ntmps54
  go_wp2_with (fail)
  clear h1 h2 h3 h4 h5 h6 h7 h8 h9 h10 h11 h12
  refine (operation_calls op _).mono ?_
  rintro e w1 ⟨r, rfl, hr, m⟩
  obtain ⟨⟨c0, c1, c2, c3⟩, d0, d1, d2, d3, d4⟩ := boxes m
  have Hm : Hid (More w w1) := (((More.refl _).alloc _ _).alloc _ _).trans m
  clear m
  cases r with
  | false =>
    have Hr : Hid (¬ (Btw 21 30 op)) := fun h => by simpa using hr.2 h
    clear hr
    go_wp2
    go_ret
    exact Says.no (fun h => Hr.out h.1) Hm.out
  | true =>
    have Hr : Hid (Btw 21 30 op) := hr.1 rfl
    clear hr
    go_wp2_with (fail)
    refine (registers3 ra rl rc ca cl cc code regs _ _ a b c _ (by go_simp) (by go_simp) (by go_simp)).mono ?_
    rintro e w2 ⟨r2, rfl, hr2, m2⟩
    have H2 : Hid ((r2 = true ↔ Reg regs a ∧ Reg regs b ∧ Reg regs c) ∧ More w1 w2) := ⟨hr2, ((More.refl _).alloc _ _).trans m2⟩
    clear hr2 m2
    go_wp2
    go_ret
    exact ⟨r2, rfl, H2.out.1.trans ⟨fun h => ⟨Hr.out, h⟩, fun h => h.2⟩, Hm.out.trans H2.out.2⟩
set_option maxHeartbeats 1000000 in
theorem fields_56_noreg (ov_ : Int) (hov_ : ov_ = 5 ∨ ov_ = 6) (ra : Option Addr) (rl rc : Nat) (ca : Option Addr) (cl cc : Nat) (code regs : Int) (a b c n : Int) (w : World)
    (creg : ∀ (g cp : Nat) (w : World), w.cell? ⟨g, 0, none⟩ = some (.int .i64 a) → Calls Tryd.prog 66 #[.agg #[.slice ra rl rc, .slice ca cl cc, .int .i64 code, .int .i64 regs], .slice (some ⟨g, 0, none⟩) 1 cp] w fun e w' => e = .returned (.bool false) ∧ More w w') :
    Calls Tryd.prog 54 #[.agg #[.slice ra rl rc, .slice ca cl cc, .int .i64 code, .int .i64 regs], .agg #[.int .i64 ov_, .int .i64 a, .int .i64 b, .int .i64 c, .int .i64 n]] w fun e w' => e = .returned (.bool false) ∧ More w w' := by
  have Hcreg : Hid (∀ (g cp : Nat) (w : World), w.cell? ⟨g, 0, none⟩ = some (.int .i64 a) → Calls Tryd.prog 66 #[.agg #[.slice ra rl rc, .slice ca cl cc, .int .i64 code, .int .i64 regs], .slice (some ⟨g, 0, none⟩) 1 cp] w fun e w' => e = .returned (.bool false) ∧ More w w') := creg
  clear creg
  obtain ⟨W, HW⟩ : ∃ W : World, Hid (W = ((w.alloc (.cells #[.slice ra rl rc, .slice ca cl cc, .int .i64 code, .int .i64 regs] 65)).alloc (.cells #[.int .i64 ov_, .int .i64 a, .int .i64 b, .int .i64 c, .int .i64 n] 49))) := ⟨_, rfl⟩
  rcases hov_ with rfl | rfl
  all_goals
    have Hw : Hid (More w W) := HW.out ▸ (((More.refl _).alloc _ _).alloc _ _)
    obtain ⟨S, HS⟩ : ∃ S : World → Prop, Hid (∀ w', S w' ↔ More W w') := ⟨fun w' => More W w', fun _ => Iff.rfl⟩
    have k00 : ∀ i : { w' // S w' }, i.val.cell? ⟨w.heap.size, 0, none⟩ = some (.slice ra rl rc) := fun i => ((HS.out _).1 i.property).cell (by rw [HW.out]; go_simp)
    have k01 : ∀ i : { w' // S w' }, i.val.cell? ⟨w.heap.size, 1, none⟩ = some (.slice ca cl cc) := fun i => ((HS.out _).1 i.property).cell (by rw [HW.out]; go_simp)
    have k02 : ∀ i : { w' // S w' }, i.val.cell? ⟨w.heap.size, 2, none⟩ = some (.int .i64 code) := fun i => ((HS.out _).1 i.property).cell (by rw [HW.out]; go_simp)
    have k03 : ∀ i : { w' // S w' }, i.val.cell? ⟨w.heap.size, 3, none⟩ = some (.int .i64 regs) := fun i => ((HS.out _).1 i.property).cell (by rw [HW.out]; go_simp)
    have k11 : ∀ i : { w' // S w' }, i.val.cell? ⟨w.heap.size + 1, 1, none⟩ = some (.int .i64 a) := fun i => ((HS.out _).1 i.property).cell (by rw [HW.out]; go_simp)
    have k13 : ∀ i : { w' // S w' }, i.val.cell? ⟨w.heap.size + 1, 3, none⟩ = some (.int .i64 c) := fun i => ((HS.out _).1 i.property).cell (by rw [HW.out]; go_simp)
    have k14 : ∀ i : { w' // S w' }, i.val.cell? ⟨w.heap.size + 1, 4, none⟩ = some (.int .i64 n) := fun i => ((HS.out _).1 i.property).cell (by rw [HW.out]; go_simp)
    have hne : Nonempty { w' // S w' } := ⟨⟨W, (HS.out _).2 (More.refl _)⟩⟩
    go_enter Tryd.func54, Tryd.ntmps54
    go_wp2_with (fail)
    refine wp_region_ord (S := S) [(0, true), (1, true), (2, true), (3, false), (4, false), (5, true), (6, true), (7, true), (8, true), (9, false), (10, true), (11, true), (12, true), (13, true), (14, true), (15, true), (16, true), (17, true), (18, true), (19, true), (20, true), (21, false), (22, false), (23, true), (24, true)] (by kernel_rfl) (by kernel_rfl) (by kernel_rfl) ((HS.out _).2 (HW.out ▸ (More.refl _).drew)) ?_
    iterate 3 (refine wpOrd_take rfl (by kernel_rfl) (fun K hK => ?_); go_simp; refine hK _ _ ?_; clear hK K)
    refine wpOrd_busy rfl (by kernel_rfl) (fun K hK => ?_); go_simp; refine hK _ _ ((HS.out _).2 (HW.out ▸ (by repeat (first | exact More.refl _ | apply More.drew | apply More.alloc)))) ?_; clear hK K
    refine wpOrd_busy rfl (by kernel_rfl) (fun K hK => ?_); go_simp
    refine (Hcreg.out _ _ _ (by go_simp)).mono ?_
    rintro e w1 ⟨rfl, m1⟩
    go_simp
    have Hm1 : Hid (More W w1) := HW.out ▸ More.trans (by repeat (first | exact More.refl _ | apply More.drew | apply More.alloc)) m1
    clear m1
    refine hK _ _ ((HS.out _).2 Hm1.out) ?_; clear hK K
    refine wpOrd_move rfl rfl (by kernel_rfl) (fun K hK => ?_); go_simp; refine hK _ _ ?_; clear hK K
    iterate 4 (refine wpOrd_skip rfl ((HS.out _).2 Hm1.out) (by kernel_rfl) (by kernel_rfl) ?_)
    refine wpOrd_pickF rfl rfl (by kernel_rfl) rfl (fun K hK => ?_); go_simp; refine hK _ _ ?_; clear hK K
    refine wpOrd_move rfl rfl (by kernel_rfl) (fun K hK => ?_); go_simp; refine hK _ _ ?_; clear hK K
    iterate 11 (refine wpOrd_skip rfl ((HS.out _).2 Hm1.out) (by kernel_rfl) (by kernel_rfl) ?_)
    refine wpOrd_pickF rfl rfl (by kernel_rfl) rfl (fun K hK => ?_); go_simp; refine hK _ _ ?_; clear hK K
    refine wpOrd_assign rfl rfl (by kernel_rfl) (fun K hK => ?_); go_simp; refine hK _ _ ?_; clear hK K
    refine wpOrd_done ?_
    go_wp2
    go_ret
    exact ⟨rfl, Hw.out.trans Hm1.out⟩

set_option maxHeartbeats 1000000 in
theorem fields_56_norgn (ov_ : Int) (hov_ : ov_ = 5 ∨ ov_ = 6) (ra : Option Addr) (rl rc : Nat) (ca : Option Addr) (cl cc : Nat) (code regs : Int) (a b c n : Int) (w : World)
    (creg : ∀ (g cp : Nat) (w : World), w.cell? ⟨g, 0, none⟩ = some (.int .i64 a) → Calls Tryd.prog 66 #[.agg #[.slice ra rl rc, .slice ca cl cc, .int .i64 code, .int .i64 regs], .slice (some ⟨g, 0, none⟩) 1 cp] w fun e w' => e = .returned (.bool true) ∧ More w w')
    (crgn : ∀ (w : World), Calls Tryd.prog 67 #[.agg #[.slice ra rl rc, .slice ca cl cc, .int .i64 code, .int .i64 regs], .int .i64 c] w fun e w' => e = .returned (.bool false) ∧ More w w') :
    Calls Tryd.prog 54 #[.agg #[.slice ra rl rc, .slice ca cl cc, .int .i64 code, .int .i64 regs], .agg #[.int .i64 ov_, .int .i64 a, .int .i64 b, .int .i64 c, .int .i64 n]] w fun e w' => e = .returned (.bool false) ∧ More w w' := by
  have Hcreg : Hid (∀ (g cp : Nat) (w : World), w.cell? ⟨g, 0, none⟩ = some (.int .i64 a) → Calls Tryd.prog 66 #[.agg #[.slice ra rl rc, .slice ca cl cc, .int .i64 code, .int .i64 regs], .slice (some ⟨g, 0, none⟩) 1 cp] w fun e w' => e = .returned (.bool true) ∧ More w w') := creg
  clear creg
  have Hcrgn : Hid (∀ (w : World), Calls Tryd.prog 67 #[.agg #[.slice ra rl rc, .slice ca cl cc, .int .i64 code, .int .i64 regs], .int .i64 c] w fun e w' => e = .returned (.bool false) ∧ More w w') := crgn
  clear crgn
  obtain ⟨W, HW⟩ : ∃ W : World, Hid (W = ((w.alloc (.cells #[.slice ra rl rc, .slice ca cl cc, .int .i64 code, .int .i64 regs] 65)).alloc (.cells #[.int .i64 ov_, .int .i64 a, .int .i64 b, .int .i64 c, .int .i64 n] 49))) := ⟨_, rfl⟩
  rcases hov_ with rfl | rfl
  all_goals
    have Hw : Hid (More w W) := HW.out ▸ (((More.refl _).alloc _ _).alloc _ _)
    obtain ⟨S, HS⟩ : ∃ S : World → Prop, Hid (∀ w', S w' ↔ More W w') := ⟨fun w' => More W w', fun _ => Iff.rfl⟩
    have k00 : ∀ i : { w' // S w' }, i.val.cell? ⟨w.heap.size, 0, none⟩ = some (.slice ra rl rc) := fun i => ((HS.out _).1 i.property).cell (by rw [HW.out]; go_simp)
    have k01 : ∀ i : { w' // S w' }, i.val.cell? ⟨w.heap.size, 1, none⟩ = some (.slice ca cl cc) := fun i => ((HS.out _).1 i.property).cell (by rw [HW.out]; go_simp)
    have k02 : ∀ i : { w' // S w' }, i.val.cell? ⟨w.heap.size, 2, none⟩ = some (.int .i64 code) := fun i => ((HS.out _).1 i.property).cell (by rw [HW.out]; go_simp)
    have k03 : ∀ i : { w' // S w' }, i.val.cell? ⟨w.heap.size, 3, none⟩ = some (.int .i64 regs) := fun i => ((HS.out _).1 i.property).cell (by rw [HW.out]; go_simp)
    have k11 : ∀ i : { w' // S w' }, i.val.cell? ⟨w.heap.size + 1, 1, none⟩ = some (.int .i64 a) := fun i => ((HS.out _).1 i.property).cell (by rw [HW.out]; go_simp)
    have k13 : ∀ i : { w' // S w' }, i.val.cell? ⟨w.heap.size + 1, 3, none⟩ = some (.int .i64 c) := fun i => ((HS.out _).1 i.property).cell (by rw [HW.out]; go_simp)
    have k14 : ∀ i : { w' // S w' }, i.val.cell? ⟨w.heap.size + 1, 4, none⟩ = some (.int .i64 n) := fun i => ((HS.out _).1 i.property).cell (by rw [HW.out]; go_simp)
    have hne : Nonempty { w' // S w' } := ⟨⟨W, (HS.out _).2 (More.refl _)⟩⟩
    go_enter Tryd.func54, Tryd.ntmps54
    go_wp2_with (fail)
    refine wp_region_ord (S := S) [(0, true), (1, true), (2, true), (3, false), (4, false), (5, true), (6, true), (7, true), (8, true), (9, false), (10, true), (11, true), (12, true), (13, true), (14, true), (15, true), (16, true), (17, true), (18, true), (19, true), (20, true), (21, false), (22, false), (23, true), (24, true)] (by kernel_rfl) (by kernel_rfl) (by kernel_rfl) ((HS.out _).2 (HW.out ▸ (More.refl _).drew)) ?_
    iterate 3 (refine wpOrd_take rfl (by kernel_rfl) (fun K hK => ?_); go_simp; refine hK _ _ ?_; clear hK K)
    refine wpOrd_busy rfl (by kernel_rfl) (fun K hK => ?_); go_simp; refine hK _ _ ((HS.out _).2 (HW.out ▸ (by repeat (first | exact More.refl _ | apply More.drew | apply More.alloc)))) ?_; clear hK K
    refine wpOrd_busy rfl (by kernel_rfl) (fun K hK => ?_); go_simp
    refine (Hcreg.out _ _ _ (by go_simp)).mono ?_
    rintro e w1 ⟨rfl, m1⟩
    go_simp
    have Hm1 : Hid (More W w1) := HW.out ▸ More.trans (by repeat (first | exact More.refl _ | apply More.drew | apply More.alloc)) m1
    clear m1
    refine hK _ _ ((HS.out _).2 Hm1.out) ?_; clear hK K
    refine wpOrd_move rfl rfl (by kernel_rfl) (fun K hK => ?_); go_simp; refine hK _ _ ?_; clear hK K
    iterate 3 (refine wpOrd_take rfl (by kernel_rfl) (fun K hK => ?_); go_simp; refine hK _ _ ?_; clear hK K)
    refine wpOrd_busy rfl (by kernel_rfl) (fun K hK => ?_); go_simp
    refine (Hcrgn.out _).mono ?_
    rintro e w2 ⟨rfl, m2⟩
    go_simp
    have Hm2 : Hid (More W w2) := Hm1.out.trans m2
    clear m2
    refine hK _ _ ((HS.out _).2 Hm2.out) ?_; clear hK K
    refine wpOrd_pickT rfl rfl (by kernel_rfl) rfl (fun K hK => ?_); go_simp; refine hK _ _ ?_; clear hK K
    refine wpOrd_move rfl rfl (by kernel_rfl) (fun K hK => ?_); go_simp; refine hK _ _ ?_; clear hK K
    iterate 11 (refine wpOrd_skip rfl ((HS.out _).2 Hm2.out) (by kernel_rfl) (by kernel_rfl) ?_)
    refine wpOrd_pickF rfl rfl (by kernel_rfl) rfl (fun K hK => ?_); go_simp; refine hK _ _ ?_; clear hK K
    refine wpOrd_assign rfl rfl (by kernel_rfl) (fun K hK => ?_); go_simp; refine hK _ _ ?_; clear hK K
    refine wpOrd_done ?_
    go_wp2
    go_ret
    exact ⟨rfl, Hw.out.trans Hm2.out⟩

set_option maxHeartbeats 1000000 in
theorem fields_56_all (ov_ : Int) (hov_ : ov_ = 5 ∨ ov_ = 6) (rb ro : Nat) (rl rc : Nat) (ca : Option Addr) (cl cc : Nat) (code regs : Int) (a b c n : Int) (l nw : Int) (s : Bool) (w : World) (h0 : 0 ≤ c) (h1 : c < (rl : Int))
    (hr0 : w.cell? ⟨rb, ro + c.toNat * 2, none⟩ = some (.int .i64 l)) (hr1 : w.cell? ⟨rb, ro + c.toNat * 2 + 1, none⟩ = some (.bool s))
    (creg : ∀ (g cp : Nat) (w : World), w.cell? ⟨g, 0, none⟩ = some (.int .i64 a) → Calls Tryd.prog 66 #[.agg #[.slice (some ⟨rb, ro, none⟩) rl rc, .slice ca cl cc, .int .i64 code, .int .i64 regs], .slice (some ⟨g, 0, none⟩) 1 cp] w fun e w' => e = .returned (.bool true) ∧ More w w')
    (crgn : ∀ (w : World), Calls Tryd.prog 67 #[.agg #[.slice (some ⟨rb, ro, none⟩) rl rc, .slice ca cl cc, .int .i64 code, .int .i64 regs], .int .i64 c] w fun e w' => e = .returned (.bool true) ∧ More w w')
    (cwrd : ∀ (w : World), Calls Tryd.prog 69 #[.agg #[.int .i64 l, .bool s]] w fun e w' => e = .returned (.int .i64 nw) ∧ More w w') :
    Calls Tryd.prog 54 #[.agg #[.slice (some ⟨rb, ro, none⟩) rl rc, .slice ca cl cc, .int .i64 code, .int .i64 regs], .agg #[.int .i64 ov_, .int .i64 a, .int .i64 b, .int .i64 c, .int .i64 n]] w (Says (Blw n nw) w) := by
  have Hcreg : Hid (∀ (g cp : Nat) (w : World), w.cell? ⟨g, 0, none⟩ = some (.int .i64 a) → Calls Tryd.prog 66 #[.agg #[.slice (some ⟨rb, ro, none⟩) rl rc, .slice ca cl cc, .int .i64 code, .int .i64 regs], .slice (some ⟨g, 0, none⟩) 1 cp] w fun e w' => e = .returned (.bool true) ∧ More w w') := creg
  clear creg
  have Hcrgn : Hid (∀ (w : World), Calls Tryd.prog 67 #[.agg #[.slice (some ⟨rb, ro, none⟩) rl rc, .slice ca cl cc, .int .i64 code, .int .i64 regs], .int .i64 c] w fun e w' => e = .returned (.bool true) ∧ More w w') := crgn
  clear crgn
  have Hcwrd : Hid (∀ (w : World), Calls Tryd.prog 69 #[.agg #[.int .i64 l, .bool s]] w fun e w' => e = .returned (.int .i64 nw) ∧ More w w') := cwrd
  clear cwrd
  obtain ⟨W, HW⟩ : ∃ W : World, Hid (W = ((w.alloc (.cells #[.slice (some ⟨rb, ro, none⟩) rl rc, .slice ca cl cc, .int .i64 code, .int .i64 regs] 65)).alloc (.cells #[.int .i64 ov_, .int .i64 a, .int .i64 b, .int .i64 c, .int .i64 n] 49))) := ⟨_, rfl⟩
  rcases hov_ with rfl | rfl
  all_goals
    have Hw : Hid (More w W) := HW.out ▸ (((More.refl _).alloc _ _).alloc _ _)
    obtain ⟨S, HS⟩ : ∃ S : World → Prop, Hid (∀ w', S w' ↔ More W w') := ⟨fun w' => More W w', fun _ => Iff.rfl⟩
    have k00 : ∀ i : { w' // S w' }, i.val.cell? ⟨w.heap.size, 0, none⟩ = some (.slice (some ⟨rb, ro, none⟩) rl rc) := fun i => ((HS.out _).1 i.property).cell (by rw [HW.out]; go_simp)
    have k01 : ∀ i : { w' // S w' }, i.val.cell? ⟨w.heap.size, 1, none⟩ = some (.slice ca cl cc) := fun i => ((HS.out _).1 i.property).cell (by rw [HW.out]; go_simp)
    have k02 : ∀ i : { w' // S w' }, i.val.cell? ⟨w.heap.size, 2, none⟩ = some (.int .i64 code) := fun i => ((HS.out _).1 i.property).cell (by rw [HW.out]; go_simp)
    have k03 : ∀ i : { w' // S w' }, i.val.cell? ⟨w.heap.size, 3, none⟩ = some (.int .i64 regs) := fun i => ((HS.out _).1 i.property).cell (by rw [HW.out]; go_simp)
    have k11 : ∀ i : { w' // S w' }, i.val.cell? ⟨w.heap.size + 1, 1, none⟩ = some (.int .i64 a) := fun i => ((HS.out _).1 i.property).cell (by rw [HW.out]; go_simp)
    have k13 : ∀ i : { w' // S w' }, i.val.cell? ⟨w.heap.size + 1, 3, none⟩ = some (.int .i64 c) := fun i => ((HS.out _).1 i.property).cell (by rw [HW.out]; go_simp)
    have k14 : ∀ i : { w' // S w' }, i.val.cell? ⟨w.heap.size + 1, 4, none⟩ = some (.int .i64 n) := fun i => ((HS.out _).1 i.property).cell (by rw [HW.out]; go_simp)
    have kr0 : ∀ i : { w' // S w' }, i.val.cell? ⟨rb, ro + c.toNat * 2, none⟩ = some (.int .i64 l) := fun i => ((HS.out _).1 i.property).cell (Hw.out.cell hr0)
    have kr1 : ∀ i : { w' // S w' }, i.val.cell? ⟨rb, ro + c.toNat * 2 + 1, none⟩ = some (.bool s) := fun i => ((HS.out _).1 i.property).cell (Hw.out.cell hr1)
    have hne : Nonempty { w' // S w' } := ⟨⟨W, (HS.out _).2 (More.refl _)⟩⟩
    clear hr0 hr1
    go_enter Tryd.func54, Tryd.ntmps54
    go_wp2_with (fail)
    refine wp_region_ord (S := S) [(0, true), (1, true), (2, true), (3, false), (4, false), (5, true), (6, true), (7, true), (8, true), (9, false), (10, true), (11, true), (12, true), (13, true), (14, true), (15, true), (16, true), (17, true), (18, true), (19, true), (20, true), (21, false), (22, false), (23, true), (24, true)] (by kernel_rfl) (by kernel_rfl) (by kernel_rfl) ((HS.out _).2 (HW.out ▸ (More.refl _).drew)) ?_
    iterate 3 (refine wpOrd_take rfl (by kernel_rfl) (fun K hK => ?_); go_simp; refine hK _ _ ?_; clear hK K)
    refine wpOrd_busy rfl (by kernel_rfl) (fun K hK => ?_); go_simp; refine hK _ _ ((HS.out _).2 (HW.out ▸ (by repeat (first | exact More.refl _ | apply More.drew | apply More.alloc)))) ?_; clear hK K
    refine wpOrd_busy rfl (by kernel_rfl) (fun K hK => ?_); go_simp
    refine (Hcreg.out _ _ _ (by go_simp)).mono ?_
    rintro e w1 ⟨rfl, m1⟩
    go_simp
    have Hm1 : Hid (More W w1) := HW.out ▸ More.trans (by repeat (first | exact More.refl _ | apply More.drew | apply More.alloc)) m1
    clear m1
    refine hK _ _ ((HS.out _).2 Hm1.out) ?_; clear hK K
    refine wpOrd_move rfl rfl (by kernel_rfl) (fun K hK => ?_); go_simp; refine hK _ _ ?_; clear hK K
    iterate 3 (refine wpOrd_take rfl (by kernel_rfl) (fun K hK => ?_); go_simp; refine hK _ _ ?_; clear hK K)
    refine wpOrd_busy rfl (by kernel_rfl) (fun K hK => ?_); go_simp
    refine (Hcrgn.out _).mono ?_
    rintro e w2 ⟨rfl, m2⟩
    go_simp
    have Hm2 : Hid (More W w2) := Hm1.out.trans m2
    clear m2
    refine hK _ _ ((HS.out _).2 Hm2.out) ?_; clear hK K
    refine wpOrd_pickT rfl rfl (by kernel_rfl) rfl (fun K hK => ?_); go_simp; refine hK _ _ ?_; clear hK K
    refine wpOrd_move rfl rfl (by kernel_rfl) (fun K hK => ?_); go_simp; refine hK _ _ ?_; clear hK K
    iterate 9 (refine wpOrd_take rfl (by kernel_rfl) (fun K hK => ?_); go_simp; refine hK _ _ ?_; clear hK K)
    refine wpOrd_busy rfl (by kernel_rfl) (fun K hK => ?_); go_simp
    refine (Hcwrd.out _).mono ?_
    rintro e w3 ⟨rfl, m3⟩
    go_simp
    have Hm3 : Hid (More W w3) := Hm2.out.trans m3
    clear m3
    refine hK _ _ ((HS.out _).2 Hm3.out) ?_; clear hK K
    refine wpOrd_busy rfl (by kernel_rfl) (fun K hK => ?_); go_simp
    refine (lay_below_calls n nw _).mono ?_
    rintro e w4 ⟨r, rfl, hr, m4⟩
    have Hr : Hid (r = true ↔ Blw n nw) := hr
    clear hr
    go_simp
    have Hm4 : Hid (More W w4) := Hm3.out.trans m4
    clear m4
    refine hK _ _ ((HS.out _).2 Hm4.out) ?_; clear hK K
    refine wpOrd_pickT rfl rfl (by kernel_rfl) rfl (fun K hK => ?_); go_simp; refine hK _ _ ?_; clear hK K
    refine wpOrd_assign rfl rfl (by kernel_rfl) (fun K hK => ?_); go_simp; refine hK _ _ ?_; clear hK K
    refine wpOrd_done ?_
    go_wp2
    go_ret
    exact ⟨r, rfl, Hr.out, Hw.out.trans Hm4.out⟩
/-- The fields that are not named are 0. -/
def NamedOk (op a b c n : Int) : Prop :=
  if op = 1 then b = 0 ∧ c = 0
  else if op = 2 then c = 0 ∧ n = 0
  else if op = 3 then True
  else if op = 4 then True
  else if op = 5 then b = 0
  else if op = 6 then b = 0
  else if op = 7 then a = 0 ∧ b = 0 ∧ c = 0
  else if op = 8 then True
  else if op = 9 then b = 0 ∧ c = 0 ∧ n = 0
  else if op = 10 then c = 0
  else if op = 11 then b = 0 ∧ c = 0
  else if op = 12 then a = 0 ∧ b = 0 ∧ c = 0 ∧ n = 0
  else n = 0

theorem named_1 (a b c n : Int) (w : World) :
    Calls Tryd.prog 53 #[.agg #[.int .i64 1, .int .i64 a, .int .i64 b, .int .i64 c, .int .i64 n]] w fun e w' => e = .returned (.agg #[.int .i64 1, .int .i64 a, .int .i64 0, .int .i64 0, .int .i64 n]) ∧ More w w' := by
  go_enter Tryd.func53, Tryd.ntmps53
  go_wp2
  exact bodyPost_ret (by simp [results, Tryd.results53, go_sem]) rfl ⟨rfl, ((More.refl _).alloc _ _).alloc _ _⟩

theorem named_2 (a b c n : Int) (w : World) :
    Calls Tryd.prog 53 #[.agg #[.int .i64 2, .int .i64 a, .int .i64 b, .int .i64 c, .int .i64 n]] w fun e w' => e = .returned (.agg #[.int .i64 2, .int .i64 a, .int .i64 b, .int .i64 0, .int .i64 0]) ∧ More w w' := by
  go_enter Tryd.func53, Tryd.ntmps53
  go_wp2
  exact bodyPost_ret (by simp [results, Tryd.results53, go_sem]) rfl ⟨rfl, ((More.refl _).alloc _ _).alloc _ _⟩

theorem named_3 (a b c n : Int) (w : World) :
    Calls Tryd.prog 53 #[.agg #[.int .i64 3, .int .i64 a, .int .i64 b, .int .i64 c, .int .i64 n]] w fun e w' => e = .returned (.agg #[.int .i64 3, .int .i64 a, .int .i64 b, .int .i64 c, .int .i64 n]) ∧ More w w' := by
  go_enter Tryd.func53, Tryd.ntmps53
  go_wp2
  exact bodyPost_ret (by simp [results, Tryd.results53, go_sem]) rfl ⟨rfl, ((More.refl _).alloc _ _).alloc _ _⟩

theorem named_4 (a b c n : Int) (w : World) :
    Calls Tryd.prog 53 #[.agg #[.int .i64 4, .int .i64 a, .int .i64 b, .int .i64 c, .int .i64 n]] w fun e w' => e = .returned (.agg #[.int .i64 4, .int .i64 a, .int .i64 b, .int .i64 c, .int .i64 n]) ∧ More w w' := by
  go_enter Tryd.func53, Tryd.ntmps53
  go_wp2
  exact bodyPost_ret (by simp [results, Tryd.results53, go_sem]) rfl ⟨rfl, ((More.refl _).alloc _ _).alloc _ _⟩

theorem named_5 (a b c n : Int) (w : World) :
    Calls Tryd.prog 53 #[.agg #[.int .i64 5, .int .i64 a, .int .i64 b, .int .i64 c, .int .i64 n]] w fun e w' => e = .returned (.agg #[.int .i64 5, .int .i64 a, .int .i64 0, .int .i64 c, .int .i64 n]) ∧ More w w' := by
  go_enter Tryd.func53, Tryd.ntmps53
  go_wp2
  exact bodyPost_ret (by simp [results, Tryd.results53, go_sem]) rfl ⟨rfl, ((More.refl _).alloc _ _).alloc _ _⟩

theorem named_6 (a b c n : Int) (w : World) :
    Calls Tryd.prog 53 #[.agg #[.int .i64 6, .int .i64 a, .int .i64 b, .int .i64 c, .int .i64 n]] w fun e w' => e = .returned (.agg #[.int .i64 6, .int .i64 a, .int .i64 0, .int .i64 c, .int .i64 n]) ∧ More w w' := by
  go_enter Tryd.func53, Tryd.ntmps53
  go_wp2
  exact bodyPost_ret (by simp [results, Tryd.results53, go_sem]) rfl ⟨rfl, ((More.refl _).alloc _ _).alloc _ _⟩

theorem named_7 (a b c n : Int) (w : World) :
    Calls Tryd.prog 53 #[.agg #[.int .i64 7, .int .i64 a, .int .i64 b, .int .i64 c, .int .i64 n]] w fun e w' => e = .returned (.agg #[.int .i64 7, .int .i64 0, .int .i64 0, .int .i64 0, .int .i64 n]) ∧ More w w' := by
  go_enter Tryd.func53, Tryd.ntmps53
  go_wp2
  exact bodyPost_ret (by simp [results, Tryd.results53, go_sem]) rfl ⟨rfl, ((More.refl _).alloc _ _).alloc _ _⟩

theorem named_8 (a b c n : Int) (w : World) :
    Calls Tryd.prog 53 #[.agg #[.int .i64 8, .int .i64 a, .int .i64 b, .int .i64 c, .int .i64 n]] w fun e w' => e = .returned (.agg #[.int .i64 8, .int .i64 a, .int .i64 b, .int .i64 c, .int .i64 n]) ∧ More w w' := by
  go_enter Tryd.func53, Tryd.ntmps53
  go_wp2
  exact bodyPost_ret (by simp [results, Tryd.results53, go_sem]) rfl ⟨rfl, ((More.refl _).alloc _ _).alloc _ _⟩

theorem named_9 (a b c n : Int) (w : World) :
    Calls Tryd.prog 53 #[.agg #[.int .i64 9, .int .i64 a, .int .i64 b, .int .i64 c, .int .i64 n]] w fun e w' => e = .returned (.agg #[.int .i64 9, .int .i64 a, .int .i64 0, .int .i64 0, .int .i64 0]) ∧ More w w' := by
  go_enter Tryd.func53, Tryd.ntmps53
  go_wp2
  exact bodyPost_ret (by simp [results, Tryd.results53, go_sem]) rfl ⟨rfl, ((More.refl _).alloc _ _).alloc _ _⟩

theorem named_10 (a b c n : Int) (w : World) :
    Calls Tryd.prog 53 #[.agg #[.int .i64 10, .int .i64 a, .int .i64 b, .int .i64 c, .int .i64 n]] w fun e w' => e = .returned (.agg #[.int .i64 10, .int .i64 a, .int .i64 b, .int .i64 0, .int .i64 n]) ∧ More w w' := by
  go_enter Tryd.func53, Tryd.ntmps53
  go_wp2
  exact bodyPost_ret (by simp [results, Tryd.results53, go_sem]) rfl ⟨rfl, ((More.refl _).alloc _ _).alloc _ _⟩

theorem named_11 (a b c n : Int) (w : World) :
    Calls Tryd.prog 53 #[.agg #[.int .i64 11, .int .i64 a, .int .i64 b, .int .i64 c, .int .i64 n]] w fun e w' => e = .returned (.agg #[.int .i64 11, .int .i64 a, .int .i64 0, .int .i64 0, .int .i64 n]) ∧ More w w' := by
  go_enter Tryd.func53, Tryd.ntmps53
  go_wp2
  exact bodyPost_ret (by simp [results, Tryd.results53, go_sem]) rfl ⟨rfl, ((More.refl _).alloc _ _).alloc _ _⟩

theorem named_12 (a b c n : Int) (w : World) :
    Calls Tryd.prog 53 #[.agg #[.int .i64 12, .int .i64 a, .int .i64 b, .int .i64 c, .int .i64 n]] w fun e w' => e = .returned (.agg #[.int .i64 12, .int .i64 0, .int .i64 0, .int .i64 0, .int .i64 0]) ∧ More w w' := by
  go_enter Tryd.func53, Tryd.ntmps53
  go_wp2
  exact bodyPost_ret (by simp [results, Tryd.results53, go_sem]) rfl ⟨rfl, ((More.refl _).alloc _ _).alloc _ _⟩

theorem named_else (op a b c n : Int) (h1 : ¬ op = 1) (h2 : ¬ op = 2) (h3 : ¬ op = 3) (h4 : ¬ op = 4) (h5 : ¬ op = 5) (h6 : ¬ op = 6) (h7 : ¬ op = 7) (h8 : ¬ op = 8) (h9 : ¬ op = 9) (h10 : ¬ op = 10) (h11 : ¬ op = 11) (h12 : ¬ op = 12) (w : World) :
    Calls Tryd.prog 53 #[.agg #[.int .i64 op, .int .i64 a, .int .i64 b, .int .i64 c, .int .i64 n]] w fun e w' => e = .returned (.agg #[.int .i64 op, .int .i64 a, .int .i64 b, .int .i64 c, .int .i64 0]) ∧ More w w' := by
  go_enter Tryd.func53, Tryd.ntmps53
  go_wp2
  exact bodyPost_ret (by simp [results, Tryd.results53, go_sem]) rfl ⟨rfl, ((More.refl _).alloc _ _).alloc _ _⟩

/-- The instruction with its named fields alone is the same one just if the others are 0. -/
theorem named_calls (op a b c n : Int) (w : World) :
    Calls Tryd.prog 53 #[.agg #[.int .i64 op, .int .i64 a, .int .i64 b, .int .i64 c, .int .i64 n]] w fun e w' =>
      ∃ a' b' c' n' : Int, e = .returned (.agg #[.int .i64 op, .int .i64 a', .int .i64 b', .int .i64 c', .int .i64 n']) ∧ ((a = a' ∧ b = b' ∧ c = c' ∧ n = n') ↔ NamedOk op a b c n) ∧ More w w' := by
  by_cases h1 : op = 1
  · subst h1
    refine (named_1 a b c n w).mono fun e w' h => ⟨a, 0, 0, n, h.1, ?_, h.2⟩
    unfold NamedOk; simp
  by_cases h2 : op = 2
  · subst h2
    refine (named_2 a b c n w).mono fun e w' h => ⟨a, b, 0, 0, h.1, ?_, h.2⟩
    unfold NamedOk; simp
  by_cases h3 : op = 3
  · subst h3
    refine (named_3 a b c n w).mono fun e w' h => ⟨a, b, c, n, h.1, ?_, h.2⟩
    unfold NamedOk; simp
  by_cases h4 : op = 4
  · subst h4
    refine (named_4 a b c n w).mono fun e w' h => ⟨a, b, c, n, h.1, ?_, h.2⟩
    unfold NamedOk; simp
  by_cases h5 : op = 5
  · subst h5
    refine (named_5 a b c n w).mono fun e w' h => ⟨a, 0, c, n, h.1, ?_, h.2⟩
    unfold NamedOk; simp
  by_cases h6 : op = 6
  · subst h6
    refine (named_6 a b c n w).mono fun e w' h => ⟨a, 0, c, n, h.1, ?_, h.2⟩
    unfold NamedOk; simp
  by_cases h7 : op = 7
  · subst h7
    refine (named_7 a b c n w).mono fun e w' h => ⟨0, 0, 0, n, h.1, ?_, h.2⟩
    unfold NamedOk; simp
  by_cases h8 : op = 8
  · subst h8
    refine (named_8 a b c n w).mono fun e w' h => ⟨a, b, c, n, h.1, ?_, h.2⟩
    unfold NamedOk; simp
  by_cases h9 : op = 9
  · subst h9
    refine (named_9 a b c n w).mono fun e w' h => ⟨a, 0, 0, 0, h.1, ?_, h.2⟩
    unfold NamedOk; simp
  by_cases h10 : op = 10
  · subst h10
    refine (named_10 a b c n w).mono fun e w' h => ⟨a, b, 0, n, h.1, ?_, h.2⟩
    unfold NamedOk; simp
  by_cases h11 : op = 11
  · subst h11
    refine (named_11 a b c n w).mono fun e w' h => ⟨a, 0, 0, n, h.1, ?_, h.2⟩
    unfold NamedOk; simp
  by_cases h12 : op = 12
  · subst h12
    refine (named_12 a b c n w).mono fun e w' h => ⟨0, 0, 0, 0, h.1, ?_, h.2⟩
    unfold NamedOk; simp
  refine (named_else op a b c n h1 h2 h3 h4 h5 h6 h7 h8 h9 h10 h11 h12 w).mono fun e w' h => ⟨a, b, c, 0, h.1, ?_, h.2⟩
  unfold NamedOk
  rw [if_neg h1, if_neg h2, if_neg h3, if_neg h4, if_neg h5, if_neg h6, if_neg h7, if_neg h8, if_neg h9, if_neg h10, if_neg h11, if_neg h12]
  simp
theorem ins_iff (rl : Nat) (log : Nat → Int) (cl : Nat) (regs op a b c n : Int) : InsOk rl log cl regs ⟨op, a, b, c, n⟩ ↔ NamedOk op a b c n ∧ FieldsOk rl log cl regs op a b c n := by
  unfold InsOk NamedOk FieldsOk Btw
  dsimp only
  by_cases h1 : op = 1
  · rw [if_pos h1, if_pos h1, if_pos h1]; exact ⟨fun h => ⟨⟨h.2.1, h.2.2⟩, h.1⟩, fun h => ⟨h.2, h.1.1, h.1.2⟩⟩
  rw [if_neg h1, if_neg h1, if_neg h1]
  by_cases h2 : op = 2
  · rw [if_pos h2, if_pos h2, if_pos h2]; exact ⟨fun h => ⟨⟨h.2.2.1, h.2.2.2⟩, h.1, h.2.1⟩, fun h => ⟨h.2.1, h.2.2, h.1.1, h.1.2⟩⟩
  rw [if_neg h2, if_neg h2, if_neg h2]
  by_cases h3 : op = 3
  · rw [if_pos h3, if_pos h3, if_pos h3]; exact ⟨fun h => ⟨trivial, ⟨h.1, h.2.1⟩, h.2.2⟩, fun h => ⟨h.2.1.1, h.2.1.2, h.2.2⟩⟩
  rw [if_neg h3, if_neg h3, if_neg h3]
  by_cases h4 : op = 4
  · rw [if_pos h4, if_pos h4, if_pos h4]; exact ⟨fun h => ⟨trivial, ⟨h.1, h.2.1⟩, h.2.2⟩, fun h => ⟨h.2.1.1, h.2.1.2, h.2.2⟩⟩
  rw [if_neg h4, if_neg h4, if_neg h4]
  by_cases h5 : op = 5
  · rw [if_pos h5, if_pos h5, if_pos h5]; exact ⟨fun h => ⟨h.2.1, h.1, h.2.2.1, h.2.2.2⟩, fun h => ⟨h.2.1, h.1, h.2.2.1, h.2.2.2⟩⟩
  rw [if_neg h5, if_neg h5, if_neg h5]
  by_cases h6 : op = 6
  · rw [if_pos h6, if_pos h6, if_pos h6]; exact ⟨fun h => ⟨h.2.1, h.1, h.2.2.1, h.2.2.2⟩, fun h => ⟨h.2.1, h.1, h.2.2.1, h.2.2.2⟩⟩
  rw [if_neg h6, if_neg h6, if_neg h6]
  by_cases h7 : op = 7
  · rw [if_pos h7, if_pos h7, if_pos h7]; exact ⟨fun h => ⟨⟨h.1, h.2.1, h.2.2.1⟩, h.2.2.2⟩, fun h => ⟨h.1.1, h.1.2.1, h.1.2.2, h.2⟩⟩
  rw [if_neg h7, if_neg h7, if_neg h7]
  by_cases h8 : op = 8
  · rw [if_pos h8, if_pos h8, if_pos h8]; exact ⟨fun h => ⟨trivial, ⟨h.1, h.2.1⟩, h.2.2.1, h.2.2.2⟩, fun h => ⟨h.2.1.1, h.2.1.2, h.2.2.1, h.2.2.2⟩⟩
  rw [if_neg h8, if_neg h8, if_neg h8]
  by_cases h9 : op = 9
  · rw [if_pos h9, if_pos h9, if_pos h9]; exact ⟨fun h => ⟨⟨h.2.1, h.2.2.1, h.2.2.2⟩, h.1⟩, fun h => ⟨h.2, h.1.1, h.1.2.1, h.1.2.2⟩⟩
  rw [if_neg h9, if_neg h9, if_neg h9]
  by_cases h10 : op = 10
  · rw [if_pos h10, if_pos h10, if_pos h10]; exact ⟨fun h => ⟨h.2.2, h.1, h.2.1⟩, fun h => ⟨h.2.1, h.2.2, h.1⟩⟩
  rw [if_neg h10, if_neg h10, if_neg h10]
  by_cases h11 : op = 11
  · rw [if_pos h11, if_pos h11, if_pos h11]; exact ⟨fun h => ⟨⟨h.2.1, h.2.2.1⟩, h.1, h.2.2.2.1, h.2.2.2.2⟩, fun h => ⟨h.2.1, h.1.1, h.1.2, h.2.2.1, h.2.2.2⟩⟩
  rw [if_neg h11, if_neg h11, if_neg h11]
  by_cases h12 : op = 12
  · rw [if_pos h12, if_pos h12, if_pos h12]; exact ⟨fun h => ⟨h, trivial⟩, fun h => h.1⟩
  rw [if_neg h12, if_neg h12, if_neg h12]
  exact ⟨fun h => ⟨h.2.2.2.2, h.1, h.2.1, h.2.2.1, h.2.2.2.1⟩, fun h => ⟨h.2.1, h.2.2.1, h.2.2.2.1, h.2.2.2.2, h.1⟩⟩

theorem fields_5 (ra : Option Addr) (rl rc : Nat) (ca : Option Addr) (cl cc : Nat) (code regs : Int) (a b c n : Int) (rb ro : Nat) (log : Nat → Int) (sec : Nat → Bool) (w : World)
    (hra : 0 < rl → ra = some ⟨rb, ro, none⟩) (hr : RegsAt w rb ro rl log sec) (hok : RegionsOk rl log) :
    Calls Tryd.prog 54 #[.agg #[.slice ra rl rc, .slice ca cl cc, .int .i64 code, .int .i64 regs], .agg #[.int .i64 5, .int .i64 a, .int .i64 b, .int .i64 c, .int .i64 n]] w (Says (Reg regs a ∧ Rgn rl c ∧ Wrd log c n) w) := by
  by_cases hA : Reg regs a
  · by_cases hC : Rgn rl c
    · have h0 := hC.1
      have h1 := hC.2
      obtain rfl := hra (by omega)
      have hk : c.toNat < rl := by omega
      refine (fields_56_all 5 (by decide) rb ro rl rc ca cl cc code regs a b c n (log c.toNat) (wordsI (log c.toNat)) (sec c.toNat) w h0 h1 (hr _ hk).1 (hr _ hk).2
        (fun g cp w h => (registers1 _ rl rc ca cl cc code regs g cp a w h).mono fun _ _ s => s.is_yes hA)
        (fun w => (region_calls _ rl rc ca cl cc code regs c w).mono fun _ _ s => s.is_yes hC)
        (fun w => words_calls _ (hok.2 _ hk).1 (hok.2 _ hk).2 _ w)).mono ?_
      rintro e w' ⟨r, rfl, h, m⟩
      exact ⟨r, rfl, h.trans ⟨fun h => ⟨hA, hC, h⟩, fun h => h.2.2⟩, m⟩
    · refine (fields_56_norgn 5 (by decide) ra rl rc ca cl cc code regs a b c n w
        (fun g cp w h => (registers1 _ rl rc ca cl cc code regs g cp a w h).mono fun _ _ s => s.is_yes hA)
        (fun w => (region_calls _ rl rc ca cl cc code regs c w).mono fun _ _ s => s.is_no hC)).mono ?_
      rintro e w' ⟨rfl, m⟩
      exact Says.no (fun h => hC h.2.1) m
  · refine (fields_56_noreg 5 (by decide) ra rl rc ca cl cc code regs a b c n w
      (fun g cp w h => (registers1 _ rl rc ca cl cc code regs g cp a w h).mono fun _ _ s => s.is_no hA)).mono ?_
    rintro e w' ⟨rfl, m⟩
    exact Says.no (fun h => hA h.1) m

theorem fields_6 (ra : Option Addr) (rl rc : Nat) (ca : Option Addr) (cl cc : Nat) (code regs : Int) (a b c n : Int) (rb ro : Nat) (log : Nat → Int) (sec : Nat → Bool) (w : World)
    (hra : 0 < rl → ra = some ⟨rb, ro, none⟩) (hr : RegsAt w rb ro rl log sec) (hok : RegionsOk rl log) :
    Calls Tryd.prog 54 #[.agg #[.slice ra rl rc, .slice ca cl cc, .int .i64 code, .int .i64 regs], .agg #[.int .i64 6, .int .i64 a, .int .i64 b, .int .i64 c, .int .i64 n]] w (Says (Reg regs a ∧ Rgn rl c ∧ Wrd log c n) w) := by
  by_cases hA : Reg regs a
  · by_cases hC : Rgn rl c
    · have h0 := hC.1
      have h1 := hC.2
      obtain rfl := hra (by omega)
      have hk : c.toNat < rl := by omega
      refine (fields_56_all 6 (by decide) rb ro rl rc ca cl cc code regs a b c n (log c.toNat) (wordsI (log c.toNat)) (sec c.toNat) w h0 h1 (hr _ hk).1 (hr _ hk).2
        (fun g cp w h => (registers1 _ rl rc ca cl cc code regs g cp a w h).mono fun _ _ s => s.is_yes hA)
        (fun w => (region_calls _ rl rc ca cl cc code regs c w).mono fun _ _ s => s.is_yes hC)
        (fun w => words_calls _ (hok.2 _ hk).1 (hok.2 _ hk).2 _ w)).mono ?_
      rintro e w' ⟨r, rfl, h, m⟩
      exact ⟨r, rfl, h.trans ⟨fun h => ⟨hA, hC, h⟩, fun h => h.2.2⟩, m⟩
    · refine (fields_56_norgn 6 (by decide) ra rl rc ca cl cc code regs a b c n w
        (fun g cp w h => (registers1 _ rl rc ca cl cc code regs g cp a w h).mono fun _ _ s => s.is_yes hA)
        (fun w => (region_calls _ rl rc ca cl cc code regs c w).mono fun _ _ s => s.is_no hC)).mono ?_
      rintro e w' ⟨rfl, m⟩
      exact Says.no (fun h => hC h.2.1) m
  · refine (fields_56_noreg 6 (by decide) ra rl rc ca cl cc code regs a b c n w
      (fun g cp w h => (registers1 _ rl rc ca cl cc code regs g cp a w h).mono fun _ _ s => s.is_no hA)).mono ?_
    rintro e w' ⟨rfl, m⟩
    exact Says.no (fun h => hA h.1) m

theorem fields_calls (ra : Option Addr) (rl rc : Nat) (ca : Option Addr) (cl cc : Nat) (code regs : Int) (op a b c n : Int) (rb ro : Nat) (log : Nat → Int) (sec : Nat → Bool) (w : World)
    (hra : 0 < rl → ra = some ⟨rb, ro, none⟩) (hr : RegsAt w rb ro rl log sec) (hok : RegionsOk rl log) :
    Calls Tryd.prog 54 #[.agg #[.slice ra rl rc, .slice ca cl cc, .int .i64 code, .int .i64 regs], .agg #[.int .i64 op, .int .i64 a, .int .i64 b, .int .i64 c, .int .i64 n]] w (Says (FieldsOk rl log cl regs op a b c n) w) := by
  unfold FieldsOk
  by_cases h1 : op = 1
  · rw [if_pos h1]; subst h1; exact fields_1 ra rl rc ca cl cc code regs a b c n w
  rw [if_neg h1]
  by_cases h2 : op = 2
  · rw [if_pos h2]; subst h2; exact fields_2 ra rl rc ca cl cc code regs a b c n w
  rw [if_neg h2]
  by_cases h3 : op = 3
  · rw [if_pos h3]; subst h3; exact fields_3 ra rl rc ca cl cc code regs a b c n w
  rw [if_neg h3]
  by_cases h4 : op = 4
  · rw [if_pos h4]; subst h4; exact fields_4 ra rl rc ca cl cc code regs a b c n w
  rw [if_neg h4]
  by_cases h5 : op = 5
  · rw [if_pos h5]; subst h5; exact fields_5 ra rl rc ca cl cc code regs a b c n rb ro log sec w hra hr hok
  rw [if_neg h5]
  by_cases h6 : op = 6
  · rw [if_pos h6]; subst h6; exact fields_6 ra rl rc ca cl cc code regs a b c n rb ro log sec w hra hr hok
  rw [if_neg h6]
  by_cases h7 : op = 7
  · rw [if_pos h7]; subst h7; exact fields_7 ra rl rc ca cl cc code regs a b c n w
  rw [if_neg h7]
  by_cases h8 : op = 8
  · rw [if_pos h8]; subst h8; exact fields_8 ra rl rc ca cl cc code regs a b c n w
  rw [if_neg h8]
  by_cases h9 : op = 9
  · rw [if_pos h9]; subst h9; exact fields_9 ra rl rc ca cl cc code regs a b c n w
  rw [if_neg h9]
  by_cases h10 : op = 10
  · rw [if_pos h10]; subst h10; exact fields_10 ra rl rc ca cl cc code regs a b c n w
  rw [if_neg h10]
  by_cases h11 : op = 11
  · rw [if_pos h11]; subst h11; exact fields_11 ra rl rc ca cl cc code regs a b c n w
  rw [if_neg h11]
  by_cases h12 : op = 12
  · rw [if_pos h12]; subst h12; exact fields_12 ra rl rc ca cl cc code regs a b c n w
  rw [if_neg h12]
  exact fields_else ra rl rc ca cl cc code regs op a b c n h1 h2 h3 h4 h5 h6 h7 h8 h9 h10 h11 h12 w
set_option maxHeartbeats 1000000 in
theorem code_calls (ra : Option Addr) (rl rc : Nat) (ca : Option Addr) (cl cc : Nat) (code regs : Int) (rb ro cb co : Nat) (log : Nat → Int) (sec : Nat → Bool) (ins : Nat → Ins) (w : World) (most : Nat) (hcode : code = most) (hmost : most ≤ 8000)
    (hra : 0 < rl → ra = some ⟨rb, ro, none⟩) (hr : RegsAt w rb ro rl log sec) (hok : RegionsOk rl log) (hca : 0 < cl → ca = some ⟨cb, co, none⟩) (hc : CodeAt w cb co cl ins) :
    Calls Tryd.prog 42 #[.agg #[.slice ra rl rc, .slice ca cl cc, .int .i64 code, .int .i64 regs]] w (Says (CodeOk rl log cl ins most regs) w) := by
  have Hcd : Hid (code = most ∧ most ≤ 8000) := ⟨hcode, hmost⟩
  have Hr : Hid ((0 < rl → ra = some ⟨rb, ro, none⟩) ∧ RegsAt w rb ro rl log sec ∧ RegionsOk rl log) := ⟨hra, hr, hok⟩
  have Hc : Hid ((0 < cl → ca = some ⟨cb, co, none⟩) ∧ CodeAt w cb co cl ins) := ⟨hca, hc⟩
  clear hcode hmost hra hr hok hca hc
  by_cases h1 : (cl : Int) < 1
  · go_enter Tryd.func42, Tryd.ntmps42
    go_wp2
    go_ret
    exact Says.no (fun h => by have := h.1; omega) ((More.refl _).alloc _ _)
  by_cases h2 : code < (cl : Int)
  · go_enter Tryd.func42, Tryd.ntmps42
    go_wp2
    go_ret
    exact Says.no (fun h => by have := h.2.1; have := Hcd.out.1; omega) ((More.refl _).alloc _ _)
  have Hl : Hid (1 ≤ cl ∧ cl ≤ most) := ⟨by omega, by have := Hcd.out.1; omega⟩
  go_enter Tryd.func42, Tryd.ntmps42
  go_wp2
  go_loopg [23] cl (fun g i wr => ∃ k : Nat, k + g = cl ∧ i = .int .i64 k ∧ (∀ j, j < k → InsOk rl log cl regs (ins j)) ∧ More (w.alloc (.cells #[.slice ra rl rc, .slice ca cl cc, .int .i64 code, .int .i64 regs] 65)) wr)
  case atStart => exact ⟨0, by omega, rfl, fun j hj => by omega, More.refl _⟩
  case round =>
    obtain ⟨k, hkg, rfl, hin, m⟩ := hrel
    have Hm : Hid (More (w.alloc (.cells #[.slice ra rl rc, .slice ca cl cc, .int .i64 code, .int .i64 regs] 65)) wr ∧ ∀ j, j < k → InsOk rl log cl regs (ins j)) := ⟨m, hin⟩
    clear m hin
    cases gk with
    | zero =>
      obtain rfl : k = cl := by omega
      go_wp2
      go_ret
      exact Says.yes ⟨Hl.out.1, Hl.out.2, Hm.out.2⟩ (((More.refl _).alloc _ _).trans Hm.out.1)
    | succ g =>
      have hk : k < cl := by omega
      have hk' : (k : Int) < (cl : Int) := by omega
      obtain rfl := Hc.out.1 (by omega)
      have Hww : Hid (More w wr) := ((More.refl _).alloc _ _).trans Hm.out.1
      have hcell := (Hc.out.2.more Hww.out) k hk
      have Hrr : Hid (RegsAt wr rb ro rl log sec) := Hr.out.2.1.more Hww.out
      cases hI : ins k with
      | mk op a b c n =>
      rw [hI] at hcell
      have HI : Hid (ins k = ⟨op, a, b, c, n⟩) := hI
      clear hI
      obtain ⟨q0, q1, q2, q3, q4⟩ := hcell
      have e0 : wr.cell? ⟨w.heap.size, 0, none⟩ = some (.slice ra rl rc) := Hm.out.1.cell (by go_simp)
      have e1 : wr.cell? ⟨w.heap.size, 1, none⟩ = some (.slice (some ⟨cb, co, none⟩) cl cc) := Hm.out.1.cell (by go_simp)
      have e2 : wr.cell? ⟨w.heap.size, 2, none⟩ = some (.int .i64 code) := Hm.out.1.cell (by go_simp)
      have e3 : wr.cell? ⟨w.heap.size, 3, none⟩ = some (.int .i64 regs) := Hm.out.1.cell (by go_simp)
      obtain ⟨W, HW⟩ : ∃ W : World, Hid (W = wr.alloc (.cells #[.int .i64 op, .int .i64 a, .int .i64 b, .int .i64 c, .int .i64 n] 49)) := ⟨_, rfl⟩
      have HwW : Hid (More wr W) := HW.out ▸ ((More.refl _).alloc _ _)
      obtain ⟨S, HS⟩ : ∃ S : World → Prop, Hid (∀ w', S w' ↔ More W w') := ⟨fun w' => More W w', fun _ => Iff.rfl⟩
      have k0 : ∀ i : { w' // S w' }, i.val.cell? ⟨w.heap.size, 0, none⟩ = some (.slice ra rl rc) := fun i => ((HS.out _).1 i.property).cell (HwW.out.cell e0)
      have k1 : ∀ i : { w' // S w' }, i.val.cell? ⟨w.heap.size, 1, none⟩ = some (.slice (some ⟨cb, co, none⟩) cl cc) := fun i => ((HS.out _).1 i.property).cell (HwW.out.cell e1)
      have k2 : ∀ i : { w' // S w' }, i.val.cell? ⟨w.heap.size, 2, none⟩ = some (.int .i64 code) := fun i => ((HS.out _).1 i.property).cell (HwW.out.cell e2)
      have k3 : ∀ i : { w' // S w' }, i.val.cell? ⟨w.heap.size, 3, none⟩ = some (.int .i64 regs) := fun i => ((HS.out _).1 i.property).cell (HwW.out.cell e3)
      have d0 : ∀ i : { w' // S w' }, i.val.cell? ⟨wr.heap.size, 0, none⟩ = some (.int .i64 op) := fun i => ((HS.out _).1 i.property).cell (by rw [HW.out]; go_simp)
      have d1 : ∀ i : { w' // S w' }, i.val.cell? ⟨wr.heap.size, 1, none⟩ = some (.int .i64 a) := fun i => ((HS.out _).1 i.property).cell (by rw [HW.out]; go_simp)
      have d2 : ∀ i : { w' // S w' }, i.val.cell? ⟨wr.heap.size, 2, none⟩ = some (.int .i64 b) := fun i => ((HS.out _).1 i.property).cell (by rw [HW.out]; go_simp)
      have d3 : ∀ i : { w' // S w' }, i.val.cell? ⟨wr.heap.size, 3, none⟩ = some (.int .i64 c) := fun i => ((HS.out _).1 i.property).cell (by rw [HW.out]; go_simp)
      have d4 : ∀ i : { w' // S w' }, i.val.cell? ⟨wr.heap.size, 4, none⟩ = some (.int .i64 n) := fun i => ((HS.out _).1 i.property).cell (by rw [HW.out]; go_simp)
      have hne : Nonempty { w' // S w' } := ⟨⟨W, (HS.out _).2 (More.refl _)⟩⟩
      clear e0 e1 e2 e3
      go_wp2_with (fail)
      clear q0 q1 q2 q3 q4
      refine wp_region_ord (S := S) [(0, true), (1, true), (2, false), (3, true), (4, true), (5, true), (6, true), (7, false), (8, true), (9, true)] (by kernel_rfl) (by kernel_rfl) (by kernel_rfl) ((HS.out _).2 (HW.out ▸ (More.refl _).drew)) ?_
      iterate 2 (refine wpOrd_take rfl (by kernel_rfl) (fun K hK => ?_); go_simp; refine hK _ _ ?_; clear hK K)
      refine wpOrd_busy rfl (by kernel_rfl) (fun K hK => ?_); go_simp
      refine (named_calls op a b c n _).mono ?_
      rintro e w1 ⟨a', b', c', n', rfl, hnm, m1⟩
      have Hnm : Hid ((a = a' ∧ b = b' ∧ c = c' ∧ n = n') ↔ NamedOk op a b c n) := hnm
      have Hm1 : Hid (More W w1) := HW.out ▸ (More.trans (More.refl _).drew m1)
      clear hnm m1
      go_simp
      refine hK _ _ ((HS.out _).2 Hm1.out) ?_; clear hK K
      by_cases heq : a = a' ∧ b = b' ∧ c = c' ∧ n = n'
      · have HN : Hid (NamedOk op a b c n) := Hnm.out.1 heq
        obtain ⟨rfl, rfl, rfl, rfl⟩ := heq
        clear Hnm
        refine wpOrd_take rfl (by kernel_rfl) (fun K hK => ?_); go_simp; refine hK _ _ ?_; clear hK K
        refine wpOrd_move rfl rfl (by kernel_rfl) (fun K hK => ?_); go_simp; refine hK _ _ ?_; clear hK K
        iterate 2 (refine wpOrd_take rfl (by kernel_rfl) (fun K hK => ?_); go_simp; refine hK _ _ ?_; clear hK K)
        refine wpOrd_busy rfl (by kernel_rfl) (fun K hK => ?_); go_simp
        refine (fields_calls ra rl rc _ cl cc code regs op a b c n rb ro log sec _ Hr.out.1 (Hrr.out.more (HwW.out.trans Hm1.out)) Hr.out.2.2).mono ?_
        rintro e w2 ⟨r2, rfl, hr2, m2⟩
        have Hm2 : Hid (More W w2) := Hm1.out.trans m2
        clear m2
        cases r2 with
        | false =>
          have HF : Hid (¬ FieldsOk rl log cl regs op a b c n) := fun h => by simpa using hr2.2 h
          clear hr2
          go_simp
          refine hK _ _ ((HS.out _).2 Hm2.out) ?_; clear hK K
          refine wpOrd_take rfl (by kernel_rfl) (fun K hK => ?_); go_simp; refine hK _ _ ?_; clear hK K
          refine wpOrd_pickF rfl rfl (by kernel_rfl) rfl (fun K hK => ?_); go_simp; refine hK _ _ ?_; clear hK K
          refine wpOrd_done ?_
          clear k0 k1 k2 k3 d0 d1 d2 d3 d4 hne
          go_wp2
          go_ret
          exact Says.no (fun h => HF.out ((ins_iff rl log cl regs op a b c n).1 (HI.out ▸ h.2.2 k hk)).2) ((Hww.out.trans HwW.out).trans Hm2.out)
        | true =>
          have HF : Hid (FieldsOk rl log cl regs op a b c n) := hr2.1 rfl
          clear hr2
          go_simp
          refine hK _ _ ((HS.out _).2 Hm2.out) ?_; clear hK K
          refine wpOrd_take rfl (by kernel_rfl) (fun K hK => ?_); go_simp; refine hK _ _ ?_; clear hK K
          refine wpOrd_pickF rfl rfl (by kernel_rfl) rfl (fun K hK => ?_); go_simp; refine hK _ _ ?_; clear hK K
          refine wpOrd_done ?_
          clear k0 k1 k2 k3 d0 d1 d2 d3 d4 hne
          go_wp2
          go_roundg g
          case measure => omega
          case rel =>
            refine ⟨k + 1, by omega, by first | rfl | (simp; unfold wrap64; have := Hl.out.2; have := Hcd.out.2; omega), fun j hj => ?_, (Hm.out.1.trans HwW.out).trans Hm2.out⟩
            by_cases e : j = k
            · subst e; rw [HI.out]; exact (ins_iff rl log cl regs op a b c n).2 ⟨HN.out, HF.out⟩
            · exact Hm.out.2 j (by omega)
      · have HN : Hid (¬ NamedOk op a b c n) := fun h => heq (Hnm.out.2 h)
        clear Hnm
        have Hq : Hid (¬ (a = a' ∧ b = b' ∧ c = c' ∧ n = n')) := heq
        clear heq
        refine wpOrd_take rfl (by kernel_rfl) (fun K hK => ?_)
        go_simp
        refine ⟨.bool true, fun w9 _ => ?_, hK _ _ ?_⟩
        · repeat' split
          all_goals first | rfl | exact absurd ⟨‹_›, ‹_›, ‹_›, ‹_›⟩ Hq.out
        clear hK K
        refine wpOrd_move rfl rfl (by kernel_rfl) (fun K hK => ?_); go_simp; refine hK _ _ ?_; clear hK K
        iterate 4 (refine wpOrd_pass rfl ((HS.out _).2 Hm1.out) (by kernel_rfl) (fun K hK => ?_); go_simp; refine hK _ _ ?_; clear hK K)
        refine wpOrd_pickT rfl rfl (by kernel_rfl) rfl (fun K hK => ?_); go_simp; refine hK _ _ ?_; clear hK K
        refine wpOrd_done ?_
        clear k0 k1 k2 k3 d0 d1 d2 d3 d4 hne
        go_wp2
        go_ret
        exact Says.no (fun h => HN.out ((ins_iff rl log cl regs op a b c n).1 (HI.out ▸ h.2.2 k hk)).1) ((Hww.out.trans HwW.out).trans Hm1.out)

theorem allowed_calls (ra : Option Addr) (rl rc : Nat) (ca : Option Addr) (cl cc : Nat) (code regs : Int) (rb ro cb co : Nat) (log : Nat → Int) (sec : Nat → Bool) (ins : Nat → Ins) (w : World) (most : Nat) (hcode : code = most) (hmost : most ≤ 8000)
    (hra : 0 < rl → ra = some ⟨rb, ro, none⟩) (hr : RegsAt w rb ro rl log sec) (hca : 0 < cl → ca = some ⟨cb, co, none⟩) (hc : CodeAt w cb co cl ins) :
    Calls Tryd.prog 26 #[.agg #[.slice ra rl rc, .slice ca cl cc, .int .i64 code, .int .i64 regs]] w (Says (RegionsOk rl log ∧ CodeOk rl log cl ins most regs) w) := by
  have Hcd : Hid (code = most ∧ most ≤ 8000) := ⟨hcode, hmost⟩
  have Hr : Hid ((0 < rl → ra = some ⟨rb, ro, none⟩) ∧ RegsAt w rb ro rl log sec) := ⟨hra, hr⟩
  have Hc : Hid ((0 < cl → ca = some ⟨cb, co, none⟩) ∧ CodeAt w cb co cl ins) := ⟨hca, hc⟩
  clear hcode hmost hra hr hca hc
  go_enter Tryd.func26, Tryd.ntmps26
  go_wp2_with (fail)
  refine (regions_calls ra rl rc ca cl cc code regs rb ro log sec _ Hr.out.1 (Hr.out.2.more ((More.refl _).alloc _ _))).mono ?_
  rintro e w1 ⟨r, rfl, h, m1⟩
  have e0 : w1.cell? ⟨w.heap.size, 0, none⟩ = some (.slice ra rl rc) := m1.cell (by go_simp)
  have e1 : w1.cell? ⟨w.heap.size, 1, none⟩ = some (.slice ca cl cc) := m1.cell (by go_simp)
  have e2 : w1.cell? ⟨w.heap.size, 2, none⟩ = some (.int .i64 code) := m1.cell (by go_simp)
  have e3 : w1.cell? ⟨w.heap.size, 3, none⟩ = some (.int .i64 regs) := m1.cell (by go_simp)
  have Hm : Hid (More w w1) := ((More.refl _).alloc _ _).trans m1
  clear m1
  cases r with
  | false =>
    have HA : Hid (¬ RegionsOk rl log) := fun k => by simpa using h.2 k
    clear h
    go_wp2
    go_ret
    exact Says.no (fun h => HA.out h.1) Hm.out
  | true =>
    have HA : Hid (RegionsOk rl log) := h.1 rfl
    clear h
    go_wp2_with (fail)
    refine (code_calls ra rl rc ca cl cc code regs rb ro cb co log sec ins _ most Hcd.out.1 Hcd.out.2 Hr.out.1 (Hr.out.2.more Hm.out) HA.out Hc.out.1 (Hc.out.2.more Hm.out)).mono ?_
    rintro e w2 ⟨r2, rfl, h2, m2⟩
    have H2 : Hid ((r2 = true ↔ CodeOk rl log cl ins most regs) ∧ More w1 w2) := ⟨h2, m2⟩
    clear h2 m2
    go_wp2
    go_ret
    exact ⟨r2, rfl, H2.out.1.trans ⟨fun h => ⟨HA.out, h⟩, fun h => h.2⟩, Hm.out.trans H2.out.2⟩
end
section
open Go.RowKit
set_option linter.unusedSimpArgs false
set_option linter.unusedVariables false
set_option maxRecDepth 8000
theorem hard_calls (p : Prg) (l : Loc) (w : World) (h : PIn w p l) :
    Calls Tryd.prog 13 #[.agg #[.slice l.ra p.rl l.rc, .slice l.ca p.cl l.cc]] w (Says (p.Ok 8000 10) w) := by
  have H : Hid (PIn w p l) := h
  clear h
  go_enter Tryd.func13, Tryd.ntmps13
  go_wp2_with (fail)
  have m0 : More w (w.alloc (.cells #[.slice l.ra p.rl l.rc, .slice l.ca p.cl l.cc] 25)) := (More.refl _).alloc _ _
  refine (allowed_calls l.ra p.rl l.rc l.ca p.cl l.cc 8000 10 l.rb l.ro l.cb l.co p.log p.sec p.ins _ 8000 rfl (by omega) H.out.hr (H.out.regs.more m0) H.out.hc (H.out.code.more m0)).mono ?_
  rintro e w1 ⟨r, rfl, h1, m1⟩
  have H1 : Hid ((r = true ↔ p.Ok 8000 10) ∧ More w w1) := ⟨h1, m0.trans m1⟩
  clear h1 m1 m0
  go_wp2
  go_ret
  exact ⟨r, rfl, H1.out.1, H1.out.2⟩
end
section
open Go.ChangeShapes Go.WideShapes Go.ChangeAt Go.RowKit Go.Deep Go.Joins
set_option maxRecDepth 8000
theorem cells47 : Tryd.prog.cellsOf 42 = 2 := by kernel_rfl
theorem cells34 : Tryd.prog.cellsOf 49 = 5 := by kernel_rfl
theorem cells29 : Tryd.prog.cellsOf 25 = 2 := by kernel_rfl
theorem cells2 : Tryd.prog.cellsOf 2 = 1 := by kernel_rfl
theorem cells3 : Tryd.prog.cellsOf 3 = 1 := by kernel_rfl
theorem cells4 : Tryd.prog.cellsOf 4 = 1 := by kernel_rfl

def I64 (x : Int) : Prop := -9223372036854775808 ≤ x ∧ x ≤ 9223372036854775807
def Ins.fits (i : Ins) : Prop := I64 i.op ∧ I64 i.a ∧ I64 i.b ∧ I64 i.c ∧ I64 i.n

/-- What holds of every program that is handed in: the lengths and numbers are such as Go has. -/
structure Prg.Fit (p : Prg) : Prop where
  rl : p.rl ≤ maxLen
  cl : p.cl ≤ maxLen
  log : ∀ i, i < p.rl → I64 (p.log i)
  ins : ∀ i, i < p.cl → (p.ins i).fits

section
variable {H : Type} {enc : TypeId × Value → H} {W : World} {base : Nat} {held : Bool}

theorem plain_addr {a : Addr} {v : Value} (h : W.cell? a = some v) : a = ⟨a.block, a.off, none⟩ := by
  have := World.cell?_spot h
  cases a
  simp_all

theorem open_regs {fuel : Nat} {cs : List Value} {x : DataW H × List MemPlace} (h : DataW.trod enc Tryd.prog W base (fun _ => true) held fuel 22 cs = some x) :
    ∃ (ra : Option Addr) (rb ro rl rc : Nat) (log : Nat → Int) (sec : Nat → Bool), cs = [.slice ra rl rc] ∧ (0 < rl → ra = some ⟨rb, ro, none⟩) ∧ RegsAt W rb ro rl log sec ∧ rl ≤ rc ∧ rc ≤ maxLen ∧ ∀ i, i < rl → I64 (log i) := by
  rcases open_slice Tryd.underlying22 h with ⟨rfl, _⟩ | ⟨a, len, cap, m, n, D, Pl, rfl, hb, hl, hm, hmm, rfl, hx⟩
  · exact ⟨none, 0, 0, 0, 0, fun _ => 0, fun _ => false, rfl, fun h => by omega, fun i hi => by omega, Nat.le_refl _, Nat.zero_le _, fun i hi => by omega⟩
  have hlm : len ≤ m := by rw [hmm]; simpa using hl
  have each : ∀ i, i < len → ∃ q : Int × Bool, W.cell? (a.add (i * 2)) = some (.int .i64 q.1) ∧ W.cell? (a.add (i * 2 + 1)) = some (.bool q.2) ∧ I64 q.1 := by
    intro i hi
    obtain ⟨cs', h1, h2⟩ := hx i (by omega)
    rw [cells47] at h1
    obtain ⟨_, hlen, hcell⟩ := World.cells?_some h1
    obtain ⟨xs, k, hk, hxy, _, hxl, hf⟩ := DataW.trod_struct Tryd.underlying42 h2
    match cs', hlen with
    | [v0, v1], _ =>
      have g0 := hf 0 _ rfl
      have g1 := hf 1 _ rfl
      have e0 := hcell 0 (by omega)
      have e1 := hcell 1 (by omega)
      rw [add_add] at e0 e1
      simp [cells3, cells4] at g0 g1
      match xs, hxl with
      | [y0, y1], _ =>
        simp at g0 g1
        obtain ⟨z, hz, _, wz⟩ := DataW.trod_int Tryd.underlying3 g0
        obtain ⟨s, hs, _⟩ := DataW.trod_bool Tryd.underlying4 g1
        simp at hz hs e0 e1
        subst hz hs
        exact ⟨(z, s), e0, e1, bounds_i64 wz⟩
  obtain ⟨q, hq⟩ := choose_lt each
  refine ⟨some a, a.block, a.off, len, cap, fun i => (q i).1, fun i => (q i).2, rfl, fun h0 => ?_, fun i hi => ?_, hl, hm, fun i hi => (hq i hi).2.2⟩
  · have h1 := (hq 0 h0).1
    simp [Addr.add] at h1
    rw [← plain_addr h1]
  · have h1 := (hq 0 (by omega)).1
    simp [Addr.add] at h1
    have ha := plain_addr h1
    obtain ⟨b, o, s⟩ := a
    simp at ha
    subst ha
    have := hq i hi
    rw [add_plain, add_plain] at this
    exact ⟨by simpa using this.1, by have := this.2.1; simpa [Nat.add_assoc] using this⟩

theorem open_code {fuel : Nat} {cs : List Value} {x : DataW H × List MemPlace} (h : DataW.trod enc Tryd.prog W base (fun _ => true) held fuel 23 cs = some x) :
    ∃ (ca : Option Addr) (cb co cl cc : Nat) (ins : Nat → Ins), cs = [.slice ca cl cc] ∧ (0 < cl → ca = some ⟨cb, co, none⟩) ∧ CodeAt W cb co cl ins ∧ cl ≤ cc ∧ cc ≤ maxLen ∧ ∀ i, i < cl → (ins i).fits := by
  rcases open_slice Tryd.underlying23 h with ⟨rfl, _⟩ | ⟨a, len, cap, m, n, D, Pl, rfl, hb, hl, hm, hmm, rfl, hx⟩
  · exact ⟨none, 0, 0, 0, 0, fun _ => ⟨0, 0, 0, 0, 0⟩, rfl, fun h => by omega, fun i hi => by omega, Nat.le_refl _, Nat.zero_le _, fun i hi => by omega⟩
  have hlm : len ≤ m := by rw [hmm]; simpa using hl
  have each : ∀ i, i < len → ∃ q : Int × Int × Int × Int × Int, W.cell? (a.add (i * 5)) = some (.int .i64 q.1) ∧ W.cell? (a.add (i * 5 + 1)) = some (.int .i64 q.2.1) ∧ W.cell? (a.add (i * 5 + 2)) = some (.int .i64 q.2.2.1) ∧
      W.cell? (a.add (i * 5 + 3)) = some (.int .i64 q.2.2.2.1) ∧ W.cell? (a.add (i * 5 + 4)) = some (.int .i64 q.2.2.2.2) ∧ I64 q.1 ∧ I64 q.2.1 ∧ I64 q.2.2.1 ∧ I64 q.2.2.2.1 ∧ I64 q.2.2.2.2 := by
    intro i hi
    obtain ⟨cs', h1, h2⟩ := hx i (by omega)
    rw [cells34] at h1
    obtain ⟨_, hlen, hcell⟩ := World.cells?_some h1
    obtain ⟨xs, k, hk, hxy, _, hxl, hf⟩ := DataW.trod_struct Tryd.underlying49 h2
    match cs', hlen with
    | [v0, v1, v2, v3, v4], _ =>
      have g0 := hf 0 _ rfl
      have g1 := hf 1 _ rfl
      have g2 := hf 2 _ rfl
      have g3 := hf 3 _ rfl
      have g4 := hf 4 _ rfl
      have e0 := hcell 0 (by omega)
      have e1 := hcell 1 (by omega)
      have e2 := hcell 2 (by omega)
      have e3 := hcell 3 (by omega)
      have e4 := hcell 4 (by omega)
      rw [add_add] at e0 e1 e2 e3 e4
      simp [cells3, cells2] at g0 g1 g2 g3 g4
      match xs, hxl with
      | [y0, y1, y2, y3, y4], _ =>
        simp at g0 g1 g2 g3 g4
        obtain ⟨z0, hz0, _, wz0⟩ := DataW.trod_int Tryd.underlying3 g0
        obtain ⟨z1, hz1, _, wz1⟩ := DataW.trod_int Tryd.underlying3 g1
        obtain ⟨z2, hz2, _, wz2⟩ := DataW.trod_int Tryd.underlying3 g2
        obtain ⟨z3, hz3, _, wz3⟩ := DataW.trod_int Tryd.underlying3 g3
        obtain ⟨z4, hz4, _, wz4⟩ := DataW.trod_int Tryd.underlying2 g4
        simp at hz0 hz1 hz2 hz3 hz4 e0 e1 e2 e3 e4
        subst hz0 hz1 hz2 hz3 hz4
        exact ⟨(z0, z1, z2, z3, z4), e0, e1, e2, e3, e4, bounds_i64 wz0, bounds_i64 wz1, bounds_i64 wz2, bounds_i64 wz3, bounds_i64 wz4⟩
  obtain ⟨q, hq⟩ := choose_lt each
  refine ⟨some a, a.block, a.off, len, cap, fun i => ⟨(q i).1, (q i).2.1, (q i).2.2.1, (q i).2.2.2.1, (q i).2.2.2.2⟩, rfl, fun h0 => ?_, fun i hi => ?_, hl, hm, fun i hi => (hq i hi).2.2.2.2.2⟩
  · have h1 := (hq 0 h0).1
    simp [Addr.add] at h1
    rw [← plain_addr h1]
  · have h1 := (hq 0 (by omega)).1
    simp [Addr.add] at h1
    have ha := plain_addr h1
    obtain ⟨b, o, s⟩ := a
    simp at ha
    subst ha
    have := hq i hi
    rw [add_plain, add_plain, add_plain, add_plain, add_plain] at this
    obtain ⟨t0, t1, t2, t3, t4, _⟩ := this
    exact ⟨by simpa using t0, by simpa [Nat.add_assoc] using t1, by simpa [Nat.add_assoc] using t2, by simpa [Nat.add_assoc] using t3, by simpa [Nat.add_assoc] using t4⟩

theorem open_prog {v : Value} {d : DataW H} {ps : List MemPlace} {r : Reach} {b0 : Nat} (hv : Value.okWide Tryd.prog W r b0 25 v) (h : DataW.Trod enc Tryd.prog W base (fun _ => true) held 25 v d ps) :
    ∃ (p : Prg) (l : Loc), v = .agg #[.slice l.ra p.rl l.rc, .slice l.ca p.cl l.cc] ∧ PIn W p l ∧ p.Fit := by
  obtain ⟨v0, v1, y0, y1, n, rfl, rfl, rfl, h0, h1⟩ := open_agg2 Tryd.underlying25 (by kernel_rfl) cells29 hv h
  obtain ⟨ra, rb, ro, rl, rc, log, sec, e0, hra, hr, hrc, hrm, hlog⟩ := open_regs h0
  obtain ⟨ca, cb, co, cl, cc, ins, e1, hca, hc, hcc, hcm, hins⟩ := open_code h1
  simp at e0 e1
  subst e0 e1
  exact ⟨⟨rl, log, sec, cl, ins⟩, ⟨ra, rb, ro, rc, ca, cb, co, cc⟩, rfl, ⟨hra, hca, hr, hc⟩, ⟨Nat.le_trans hrc hrm, Nat.le_trans hcc hcm, hlog, hins⟩⟩

end
end
section
open Go.RowKit
set_option linter.unusedSimpArgs false
set_option linter.unusedVariables false
set_option maxRecDepth 8000
theorem insOk_op {rl : Nat} {log : Nat → Int} {cl : Nat} {r : Int} {i : Ins} (h : InsOk rl log cl r i) : ¬ i.op = 0 := by
  intro e
  unfold InsOk at h
  simp [e] at h
  all_goals omega

set_option maxHeartbeats 8000000 in
theorem print_calls (p : Prg) (l : Loc) (w : World) (hL : Lai w) (hp : PIn w p l) (hf : p.Fit) :
    Calls Tryd.prog 7 #[.agg #[.slice l.ra p.rl l.rc, .slice l.ca p.cl l.cc]] w fun e w' => More w w' ∧ ((p.Ok 8000 10 ∧ e = .returned (.tuple #[.string (txt (textL p)), .int .i64 0])) ∨ (¬ p.Ok 8000 10 ∧ e = .returned (.tuple #[.string (txt []), .int .i64 2]))) := by
  suffices hP : ∀ P : Ending → World → Prop, (∀ w', More w w' → p.Ok 8000 10 → P (.returned (.tuple #[.string (txt (textL p)), .int .i64 0])) w') → (∀ w', More w w' → ¬ p.Ok 8000 10 → P (.returned (.tuple #[.string ⟨#[]⟩, .int .i64 2])) w') → Calls Tryd.prog 7 #[.agg #[.slice l.ra p.rl l.rc, .slice l.ca p.cl l.cc]] w P from hP _ (fun w' m ok => ⟨m, .inl ⟨ok, rfl⟩⟩) (fun w' m ok => ⟨m, .inr ⟨ok, rfl⟩⟩)
  intro P hP1 hP2
  have HP1 : Hid (∀ w', More w w' → p.Ok 8000 10 → P (.returned (.tuple #[.string (txt (textL p)), .int .i64 0])) w') := hP1
  have HP2 : Hid (∀ w', More w w' → ¬ p.Ok 8000 10 → P (.returned (.tuple #[.string ⟨#[]⟩, .int .i64 2])) w') := hP2
  have HL : Hid (Lai w) := hL
  have CH : Hid (∀ w1, More w w1 → Calls Tryd.prog 13 #[.agg #[.slice l.ra p.rl l.rc, .slice l.ca p.cl l.cc]] w1 fun e w' => ∃ r : Bool, e = .returned (.bool r) ∧ (r = true ↔ p.Ok 8000 10) ∧ More w1 w') := fun w1 m => hard_calls p l w1 (hp.more m)
  have CR : Hid (∀ k, k < p.rl → ∀ w1, Lai w1 → Calls Tryd.prog 15 #[.agg #[.int .i64 (p.log k), .bool (p.sec k)]] w1 fun e w' => ∃ d : ByteArray, e = .returned (.string d) ∧ d ++ txt [10] = txt (regL (p.log k) (p.sec k)) ∧ d.size ≤ 36 ∧ More w1 w') := fun k hk w1 h => by
    refine (regline_calls (p.log k) (p.sec k) (hf.log k hk) w1 h).mono ?_
    rintro e w' ⟨rfl, m⟩
    refine ⟨_, rfl, by rw [txt_app, reg_line], ?_, m⟩
    have h1 := regL_length (p.log k) (p.sec k)
    rw [← reg_line, List.length_append] at h1
    rw [txt_size]
    omega
  have CI : Hid (p.Ok 8000 10 → ∀ k, k < p.cl → ∀ w1, Lai w1 → Calls Tryd.prog 16 #[.agg #[.int .i64 (p.ins k).op, .int .i64 (p.ins k).a, .int .i64 (p.ins k).b, .int .i64 (p.ins k).c, .int .i64 (p.ins k).n]] w1 fun e w' => ∃ d : ByteArray, e = .returned (.string d) ∧ d ++ txt [10] = txt (lineL (p.ins k)) ∧ d.size ≤ 240 ∧ More w1 w') := fun ok k hk w1 h =>
    insline_calls (p.ins k) ⟨(hf.ins k hk).2.1, (hf.ins k hk).2.2.1, (hf.ins k hk).2.2.2.1, (hf.ins k hk).2.2.2.2⟩ (kind_has (insOk_has (ok.2.2.2 k hk)) (insOk_op (ok.2.2.2 k hk))) w1 h
  have HR : Hid (∀ w1 : World, More w w1 → RegsAt w1 l.rb l.ro p.rl p.log p.sec ∧ CodeAt w1 l.cb l.co p.cl p.ins) := fun w1 m1 => ⟨hp.regs.more m1, hp.code.more m1⟩
  have Hra : Hid (0 < p.rl → l.ra = some ⟨l.rb, l.ro, none⟩) := hp.hr
  have Hca : Hid (0 < p.cl → l.ca = some ⟨l.cb, l.co, none⟩) := hp.hc
  have Hn : Hid (p.Ok 8000 10 → p.rl ≤ 6 ∧ 0 < p.cl ∧ p.cl ≤ 8000) := fun ok => ⟨ok.1.1, by have := ok.2.1; omega, ok.2.2.1⟩
  clear hP1 hP2 hL hp hf
  obtain ⟨ra, Hra1⟩ : ∃ x, Hid (l.ra = x) := ⟨_, rfl⟩
  obtain ⟨rl, Hrl⟩ : ∃ x, Hid (p.rl = x) := ⟨_, rfl⟩
  obtain ⟨rc, Hrc⟩ : ∃ x, Hid (l.rc = x) := ⟨_, rfl⟩
  obtain ⟨rb, Hrb⟩ : ∃ x, Hid (l.rb = x) := ⟨_, rfl⟩
  obtain ⟨ro, Hro⟩ : ∃ x, Hid (l.ro = x) := ⟨_, rfl⟩
  obtain ⟨ca, Hca1⟩ : ∃ x, Hid (l.ca = x) := ⟨_, rfl⟩
  obtain ⟨cb, Hcb⟩ : ∃ x, Hid (l.cb = x) := ⟨_, rfl⟩
  obtain ⟨co, Hco⟩ : ∃ x, Hid (l.co = x) := ⟨_, rfl⟩
  obtain ⟨cc, Hcc⟩ : ∃ x, Hid (l.cc = x) := ⟨_, rfl⟩
  obtain ⟨cl, Hcl⟩ : ∃ x, Hid (p.cl = x) := ⟨_, rfl⟩
  rw [Hra1.out, Hrl.out, Hrc.out, Hca1.out, Hcc.out, Hcl.out] at CH ⊢
  rw [Hrl.out, Hrb.out, Hro.out, Hcb.out, Hco.out, Hcl.out] at HR
  rw [Hra1.out, Hrl.out, Hrb.out, Hro.out] at Hra
  rw [Hca1.out, Hcl.out, Hcb.out, Hco.out] at Hca
  rw [Hrl.out] at CR
  rw [Hcl.out] at CI
  rw [Hrl.out, Hcl.out] at Hn
  have HT : Hid (textL p = regsL p rl ++ insL_ p cl) := by show _ = _; rw [← Hrl.out, ← Hcl.out]; rfl
  obtain ⟨W, HW⟩ : ∃ w_ : World, Hid (w_ = w.alloc (.cells #[.slice ra rl rc, .slice ca cl cc] 25)) := ⟨_, rfl⟩
  have HmW : Hid (More w W) := HW.out ▸ (More.refl _).alloc _ _
  have HbW : Hid (Blk W w.heap.size #[.slice ra rl rc, .slice ca cl cc] 25) := HW.out ▸ Blk.last _ _ _
  go_enter Tryd.func7, Tryd.ntmps7
  go_wp2_with (fail)
  rw [← HW.out]
  refine (CH.out W HmW.out).mono ?_
  rintro e w1 ⟨r, rfl, hr, m1⟩
  have Hm1 : Hid (More w w1) := HmW.out.trans m1
  have Hb1 : Hid (Blk w1 w.heap.size #[.slice ra rl rc, .slice ca cl cc] 25) := HbW.out.more m1
  have HO := hid_tb hr
  clear m1 hr CH HW HmW HbW
  cases r with
  | false =>
    have HE := hid_tb (HP2.out w1 Hm1.out (fun ok => absurd (HO.out.2 ok) (by simp)))
    clear HP1 HP2
    go_wp2
    exact HE.out
  | true =>
    have Hok : Hid (p.Ok 8000 10) := HO.out.1 rfl
    obtain ⟨h6, hc0, hc8⟩ := Hn.out Hok.out
    have CI1 := hid_tb (CI.out Hok.out)
    obtain rfl := Hca.out hc0
    have HP := hid_tb (fun w' m => HP1.out w' m Hok.out)
    rw [HT.out] at HP
    clear HP1 HP2 CI HO Hn Hok Hca HT
    have b0 : w1.cell? ⟨w.heap.size, 0, none⟩ = some (.slice ra rl rc) := Hb1.out.cell rfl
    have lt0 := Hb1.out.lt
    obtain ⟨W2, HW2⟩ : ∃ w_ : World, Hid (w_ = w1.alloc (.cells #[.pointer none, .slice none 0 0] 40)) := ⟨_, rfl⟩
    have HB2 : Hid (Bld W2 w1.heap.size w1.heap.size []) := HW2.out ▸ bld_fresh w1
    have Hm2 : Hid (More w1 W2) := HW2.out ▸ (More.refl _).alloc _ _
    go_wp2_with (fail)
    rw [← HW2.out]
    obtain ⟨B, HB⟩ : ∃ x, Hid (w1.heap.size = x) := ⟨_, rfl⟩
    have CWr : Hid (∀ (l m : List UInt8) (d : ByteArray) w', d ++ txt [10] = txt m → Bld w' B B l → l.length + m.length ≤ 140737488355328 → B ≤ w'.heap.size → Calls Tryd.prog 14 #[.pointer (some ⟨B, 0, none⟩), .string (d ++ ⟨#[10]⟩)] w' fun e w'' => ∃ n : Int, e = .returned (.tuple #[.int .i64 n, .nilIface]) ∧ Bld w'' B B (l ++ m) ∧ Below B w' w'') := fun l m d w' hd hb hl hB => by
      have hd' : d ++ ⟨#[10]⟩ = txt m := hd
      rw [hd']
      exact (writes_calls B B l m w' hb hl hB).mono (fun e w'' h => ⟨_, h.1, h.2.1, h.2.2.1⟩)
    rw [HB.out] at HB2 ⊢
    have HM : Hid (∀ wr, Below B w1 wr → More w wr ∧ B ≤ wr.heap.size) := fun wr m => by
      have m' : More w1 wr := by show Below w1.heap.size w1 wr; rw [HB.out]; exact m
      exact ⟨Hm1.out.trans m', by rw [← HB.out]; exact m'.size⟩
    have Hb1' : Hid (∀ wr, Below B w1 wr → Blk wr w.heap.size #[.slice ra rl rc, .slice (some ⟨cb, co, none⟩) cl cc] 25) := fun wr m => Hb1.out.more (by show Below w1.heap.size w1 wr; rw [HB.out]; exact m)
    have HW0 : Hid (Below B w1 W2) := HB.out ▸ Hm2.out
    go_loopg [15] rl (fun g kv wr => ∃ k : Nat, k + g = rl ∧ kv = .int .i64 k ∧ Hid (Bld wr B B (regsL p k) ∧ Below B w1 wr))
    case atStart => exact ⟨0, by omega, rfl, HB2.out, HW0.out⟩
    case round =>
      obtain ⟨k, hkg, rfl, Hr⟩ := hrel
      cases gk with
      | zero =>
        obtain rfl : k = rl := by omega
        have b1 : wr.cell? ⟨w.heap.size, 1, none⟩ = some (.slice (some ⟨cb, co, none⟩) cl cc) := (Hb1'.out wr Hr.out.2).cell rfl
        clear CR
        go_wp2_with (fail)
        go_loopg [27] cl (fun g kv wr => ∃ j : Nat, j + g = cl ∧ kv = .int .i64 j ∧ Hid (Bld wr B B (regsL p k ++ insL_ p j) ∧ Below B w1 wr))
        case atStart => exact ⟨0, by omega, rfl, by simpa [insL_] using Hr.out.1, Hr.out.2⟩
        case round =>
          obtain ⟨j, hjg, rfl, Hr2⟩ := hrel
          clear b1
          cases gk with
          | zero =>
            obtain rfl : j = cl := by omega
            have CS := hid_tb (string_calls B B _ wr Hr2.out.1 (HM.out wr Hr2.out.2).2)
            obtain ⟨os, Hos⟩ : ∃ x, Hid (txt (regsL p k ++ insL_ p j) = x) := ⟨_, rfl⟩
            rw [Hos.out] at CS HP
            clear CI1
            go_wp2_with (fail)
            refine CS.out.mono ?_
            rintro e w3 ⟨rfl, _, b3, _⟩
            have HE := hid_tb (HP.out w3 (HM.out w3 (Hr2.out.2.trans b3)).1)
            clear b3 HP
            go_wp2
            exact HE.out
          | succ g =>
            have hj : j < cl := by omega
            have hji : (j : Int) < cl := by omega
            have hj63 : wrap64 ((j : Int) + 1) = (j : Int) + 1 := by unfold wrap64; omega
            obtain ⟨q0, q1, q2, q3, q4⟩ := (HR.out wr (HM.out wr Hr2.out.2).1).2 j hj
            have CX := hid_tb (CI1.out j hj)
            have Hnx : Hid (∀ w', Bld w' B B (regsL p k ++ insL_ p j ++ lineL (p.ins j)) → Below B w1 w' → ∃ j' : Nat, j' + g = cl ∧ Value.int .i64 ((j : Int) + 1) = .int .i64 j' ∧ Hid (Bld w' B B (regsL p k ++ insL_ p j') ∧ Below B w1 w')) := fun w' h m => by
              refine ⟨j + 1, by omega, by simp, ?_, m⟩
              rw [insL_, ← List.append_assoc]
              exact h
            have Hlen : Hid ((regsL p k ++ insL_ p j).length + (lineL (p.ins j)).length ≤ 140737488355328) := by
              have h1 := regsL_length p k
              have h2 := insL_length p j
              have h3 := lineL_length (p.ins j)
              show _ ≤ _
              rw [List.length_append]
              omega
            obtain ⟨⟨op, a, b, c, n⟩, HI⟩ : ∃ x, Hid (p.ins j = x) := ⟨_, rfl⟩
            rw [HI.out] at q0 q1 q2 q3 q4 CX Hnx Hlen
            dsimp only at q0 q1 q2 q3 q4 CX
            obtain ⟨W3, HW3⟩ : ∃ w_ : World, Hid (w_ = wr.alloc (.cells #[.int .i64 op, .int .i64 a, .int .i64 b, .int .i64 c, .int .i64 n] 49)) := ⟨_, rfl⟩
            have Hm3 : Hid (More wr W3) := HW3.out ▸ (More.refl _).alloc _ _
            have HL3 : Hid (Lai W3) := HL.out.more ((HM.out wr Hr2.out.2).1.trans Hm3.out)
            clear CI1 HP
            go_wp2_with (fail)
            rw [← HW3.out]
            refine (CX.out W3 HL3.out).mono ?_
            rintro e w3 ⟨d, rfl, hd, hdz, m3⟩
            have Hm4 : Hid (More wr w3) := Hm3.out.trans m3
            have CZ := hid_tb (CWr.out _ _ d w3 hd (bld_more Hr2.out.1 Hm4.out) Hlen.out ((HM.out w3 (Hr2.out.2.trans (Below.mono Hm4.out (HM.out wr Hr2.out.2).2))).2))
            clear m3 hd CX q0 q1 q2 q3 q4 CWr
            go_wp2_with (fail)
            refine CZ.out.mono ?_
            rintro e w4 ⟨n4, rfl, h4, b4⟩
            have HN := hid_tb (Hnx.out w4 h4 ((Hr2.out.2.trans (Below.mono Hm4.out (HM.out wr Hr2.out.2).2)).trans b4))
            clear CZ Hnx h4 b4
            go_wp2
            go_roundg g
            case measure => omega
            case rel => exact HN.out
      | succ g =>
        have hk : k < rl := by omega
        have hki : (k : Int) < rl := by omega
        have hk63 : wrap64 ((k : Int) + 1) = (k : Int) + 1 := by unfold wrap64; omega
        obtain rfl := Hra.out (by omega)
        obtain ⟨q0, q1⟩ := (HR.out wr (HM.out wr Hr.out.2).1).1 k hk
        have CX := hid_tb (CR.out k hk)
        have Hnx : Hid (∀ w', Bld w' B B (regsL p k ++ regL (p.log k) (p.sec k)) → Below B w1 w' → ∃ k' : Nat, k' + g = rl ∧ Value.int .i64 ((k : Int) + 1) = .int .i64 k' ∧ Hid (Bld w' B B (regsL p k') ∧ Below B w1 w')) := fun w' h m => ⟨k + 1, by omega, by simp, h, m⟩
        have Hlen : Hid ((regsL p k).length + (regL (p.log k) (p.sec k)).length ≤ 140737488355328) := by
          have h1 := regsL_length p k
          have h2 := regL_length (p.log k) (p.sec k)
          show _ ≤ _
          omega
        obtain ⟨lg, Hlg⟩ : ∃ x, Hid (p.log k = x) := ⟨_, rfl⟩
        obtain ⟨sec, Hsec⟩ : ∃ x, Hid (p.sec k = x) := ⟨_, rfl⟩
        rw [Hlg.out] at q0 CX Hnx Hlen
        rw [Hsec.out] at q1 CX Hnx Hlen
        obtain ⟨W3, HW3⟩ : ∃ w_ : World, Hid (w_ = wr.alloc (.cells #[.int .i64 lg, .bool sec] 42)) := ⟨_, rfl⟩
        have Hm3 : Hid (More wr W3) := HW3.out ▸ (More.refl _).alloc _ _
        have HL3 : Hid (Lai W3) := HL.out.more ((HM.out wr Hr.out.2).1.trans Hm3.out)
        clear CI1 HP CR
        go_wp2_with (fail)
        rw [← HW3.out]
        refine (CX.out W3 HL3.out).mono ?_
        rintro e w3 ⟨d, rfl, hd, hdz, m3⟩
        have Hm4 : Hid (More wr w3) := Hm3.out.trans m3
        have CZ := hid_tb (CWr.out _ _ d w3 hd (bld_more Hr.out.1 Hm4.out) Hlen.out ((HM.out w3 (Hr.out.2.trans (Below.mono Hm4.out (HM.out wr Hr.out.2).2))).2))
        clear m3 hd CX q0 q1 CWr
        go_wp2_with (fail)
        refine CZ.out.mono ?_
        rintro e w4 ⟨n4, rfl, h4, b4⟩
        have HN := hid_tb (Hnx.out w4 h4 ((Hr.out.2.trans (Below.mono Hm4.out (HM.out wr Hr.out.2).2)).trans b4))
        clear CZ Hnx h4 b4
        go_wp2
        go_roundg g
        case measure => omega
        case rel => exact HN.out
end
section
open Go.RowKit
set_option linter.unusedSimpArgs false
set_option linter.unusedVariables false
def celR : List (Int × Bool) → List Value
  | [] => []
  | r :: l => .int .i64 r.1 :: .bool r.2 :: celR l
theorem celR_length : ∀ l, (celR l).length = l.length * 2
  | [] => rfl
  | s :: l => by simp [celR, celR_length l]; omega
theorem celR_app : ∀ l l', celR (l ++ l') = celR l ++ celR l'
  | [], _ => rfl
  | s :: l, l' => by simp [celR, celR_app l l']
theorem celR_at : ∀ (l : List (Int × Bool)) (i : Nat) (s : Int × Bool), l[i]? = some s → (celR l)[i * 2]? = some (.int .i64 s.1) ∧ (celR l)[i * 2 + 1]? = some (.bool s.2)
  | [], i, s, h => by simp at h
  | x :: l, 0, s, h => by simp at h; subst h; simp [celR]
  | x :: l, i + 1, s, h => by
    have := celR_at l i s (by simpa using h)
    rw [show (i + 1) * 2 = i * 2 + 1 + 1 by omega, celR]
    simpa using this
theorem celR_one : ∀ (l : List (Int × Bool)), ∀ u ∈ celR l, u.oneCell' = true
  | [], u, h => by simp [celR] at h
  | i :: l, u, h => by
    simp only [celR, List.mem_cons] at h
    rcases h with rfl | rfl | h
    · rfl
    · rfl
    · exact celR_one l u h
def celI : List Ins → List Value
  | [] => []
  | i :: l => .int .i64 i.op :: .int .i64 i.a :: .int .i64 i.b :: .int .i64 i.c :: .int .i64 i.n :: celI l
theorem celI_length : ∀ l : List Ins, (celI l).length = l.length * 5
  | [] => rfl
  | s :: l => by simp [celI, celI_length l]; omega
theorem celI_app : ∀ l l' : List Ins, celI (l ++ l') = celI l ++ celI l'
  | [], _ => rfl
  | s :: l, l' => by simp [celI, celI_app l l']
theorem celI_at : ∀ (l : List Ins) (i : Nat) (s : Ins), l[i]? = some s → (celI l)[i * 5]? = some (.int .i64 s.op) ∧ (celI l)[i * 5 + 1]? = some (.int .i64 s.a) ∧ (celI l)[i * 5 + 2]? = some (.int .i64 s.b) ∧ (celI l)[i * 5 + 3]? = some (.int .i64 s.c) ∧ (celI l)[i * 5 + 4]? = some (.int .i64 s.n)
  | [], i, s, h => by simp at h
  | x :: l, 0, s, h => by simp at h; subst h; simp [celI]
  | x :: l, i + 1, s, h => by
    have := celI_at l i s (by simpa using h)
    rw [show (i + 1) * 5 = i * 5 + 1 + 1 + 1 + 1 + 1 by omega, celI]
    simpa using this
theorem celI_one : ∀ (l : List Ins), ∀ u ∈ celI l, u.oneCell' = true
  | [], u, h => by simp [celI] at h
  | i :: l, u, h => by
    simp only [celI, List.mem_cons] at h
    rcases h with rfl | rfl | rfl | rfl | rfl | h
    · rfl
    · rfl
    · rfl
    · rfl
    · rfl
    · exact celI_one l u h

theorem own_block {w : World} {base : Nat} {e : TypeId} {size : Nat} {v : Value} {n : Nat} {xs : List Value} (h : w.ownsRow base e size v n xs) {g : Nat} (hg : v.ownBlock = some g) : ∃ cur, w.heap[g]? = some (.cells cur e (0, 0)) := by
  rcases h.2 with ⟨rfl, _⟩ | ⟨g', cap, cur, rfl, _, h, _⟩
  · cases hg
  · obtain rfl : g' = g := by simpa [Value.ownBlock] using hg
    exact ⟨cur, h⟩
theorem own_apart {w : World} {b b' : Nat} {e e' : TypeId} {s s' : Nat} {v v' : Value} {n n' : Nat} {xs xs' : List Value} (h : w.ownsRow b e s v n xs) (h' : w.ownsRow b' e' s' v' n' xs') (ne : e ≠ e') : v.ownBlock = none ∨ v.ownBlock ≠ v'.ownBlock := by
  cases hv : v.ownBlock with
  | none => left; rfl
  | some g =>
    right
    intro q
    obtain ⟨c, hc⟩ := own_block h hv
    obtain ⟨c', hc'⟩ := own_block h' q.symm
    rw [hc] at hc'
    have := Option.some.inj hc'
    injection this with _ k _
    exact ne k
theorem own_more {w w' : World} {b : Nat} {e : TypeId} {s : Nat} {v : Value} {n : Nat} {xs : List Value} (h : w.ownsRow b e s v n xs) (m : More w w') : w'.ownsRow b e s v n xs := by
  refine World.ownsRow.kept h (m.grow none) ?_
  cases v.ownBlock with
  | none => left; rfl
  | some b => right; simp
def regsOf (p : Prg) : List (Int × Bool) := (List.range p.rl).map fun k => (p.log k, p.sec k)
def codeOf (p : Prg) : List Ins := (List.range p.cl).map p.ins
theorem regsOf_length (p : Prg) : (regsOf p).length = p.rl := by simp [regsOf]
theorem codeOf_length (p : Prg) : (codeOf p).length = p.cl := by simp [codeOf]
theorem regsOf_get (p : Prg) {k : Nat} (h : k < p.rl) : (regsOf p)[k]? = some (p.log k, p.sec k) := by simp [regsOf, h]
theorem codeOf_get (p : Prg) {k : Nat} (h : k < p.cl) : (codeOf p)[k]? = some (p.ins k) := by simp [codeOf, h]
theorem prgOf_log (p : Prg) {k : Nat} (h : k < p.rl) : (prgOf (regsOf p) (codeOf p)).log k = p.log k := by simp [prgOf, List.getD_eq_getElem?_getD, regsOf_get p h]
theorem prgOf_sec (p : Prg) {k : Nat} (h : k < p.rl) : (prgOf (regsOf p) (codeOf p)).sec k = p.sec k := by simp [prgOf, List.getD_eq_getElem?_getD, regsOf_get p h]
theorem prgOf_ins (p : Prg) {k : Nat} (h : k < p.cl) : (prgOf (regsOf p) (codeOf p)).ins k = p.ins k := by simp [prgOf, List.getD_eq_getElem?_getD, codeOf_get p h]
theorem insOk_log {rl : Nat} {log log' : Nat → Int} {cl : Nat} {r : Int} {i : Ins} (e : ∀ k, k < rl → log' k = log k) (h : InsOk rl log cl r i) : InsOk rl log' cl r i := by
  have hw : ∀ x, Rgn rl x ∧ Wrd log x i.n → Rgn rl x ∧ Wrd log' x i.n := fun x ⟨a, b⟩ => ⟨a, by
    unfold Wrd at b ⊢
    rw [e x.toNat (by unfold Rgn at a; omega)]
    exact b⟩
  unfold InsOk at h ⊢
  by_cases h1 : i.op = 1
  · rw [if_pos h1] at h ⊢; exact h
  rw [if_neg h1] at h ⊢
  by_cases h2 : i.op = 2
  · rw [if_pos h2] at h ⊢; exact h
  rw [if_neg h2] at h ⊢
  by_cases h3 : i.op = 3
  · rw [if_pos h3] at h ⊢; exact h
  rw [if_neg h3] at h ⊢
  by_cases h4 : i.op = 4
  · rw [if_pos h4] at h ⊢; exact h
  rw [if_neg h4] at h ⊢
  by_cases h5 : i.op = 5
  · rw [if_pos h5] at h ⊢; exact ⟨h.1, h.2.1, hw _ h.2.2⟩
  rw [if_neg h5] at h ⊢
  by_cases h6 : i.op = 6
  · rw [if_pos h6] at h ⊢; exact ⟨h.1, h.2.1, hw _ h.2.2⟩
  rw [if_neg h6] at h ⊢
  exact h
theorem prgOf_ok {p : Prg} {m : Nat} {r : Int} (h : p.Ok m r) : (prgOf (regsOf p) (codeOf p)).Ok m r := by
  obtain ⟨⟨a, b⟩, c, d, e⟩ := h
  have hr : (prgOf (regsOf p) (codeOf p)).rl = p.rl := regsOf_length p
  have hc : (prgOf (regsOf p) (codeOf p)).cl = p.cl := codeOf_length p
  unfold Prg.Ok RegionsOk CodeOk
  rw [hr, hc]
  refine ⟨⟨a, fun i hi => by rw [prgOf_log p hi]; exact b i hi⟩, c, d, fun i hi => ?_⟩
  rw [prgOf_ins p hi]
  exact insOk_log (fun k hk => prgOf_log p hk) (e i hi)

/-- The lines. -/
def regN (lg : Int) (sc : Bool) : List UInt8 := rgnL ++ [digI lg, secW sc].flatMap (fun y => 32 :: y)
def insN (i : Ins) : List UInt8 := wordL i.op i.c ++ (lineW i).flatMap (fun y => 32 :: y)
def linesP (p : Prg) : List (List UInt8) := (regsOf p).map (fun r => regN r.1 r.2) ++ (codeOf p).map insN
theorem clean_flat {x : List UInt8} {ws : List (List UInt8)} (hx : ∀ b ∈ x, 45 ≤ b.toNat) (hw : ∀ y ∈ ws, ∀ b ∈ y, 45 ≤ b.toNat) : ¬ (10 : UInt8) ∈ x ++ ws.flatMap (fun y => 32 :: y) := by
  intro h
  rcases List.mem_append.1 h with h | h
  · exact clean_not hx 10 (by decide) h
  · obtain ⟨y, hy, h⟩ := List.mem_flatMap.1 h
    rcases List.mem_cons.1 h with h | h
    · exact absurd h (by decide)
    · exact clean_not (hw y hy) 10 (by decide) h
theorem linesP_clean (p : Prg) : ∀ y ∈ linesP p, ¬ (10 : UInt8) ∈ y := by
  intro y hy
  rcases List.mem_append.1 hy with hy | hy
  · obtain ⟨r, _, rfl⟩ := List.mem_map.1 hy
    refine clean_flat rgnL_clean (fun y hy => ?_)
    rcases List.mem_cons.1 hy with rfl | hy
    · exact dig_clean _
    · obtain rfl := List.mem_singleton.1 hy
      exact secW_clean _
  · obtain ⟨i, _, rfl⟩ := List.mem_map.1 hy
    refine clean_flat (word_clean _ _) (fun y hy => ?_)
    obtain ⟨f, _, rfl⟩ := List.mem_map.1 hy
    exact wf_clean _ _
theorem regsL_range (p : Prg) : ∀ k, regsL p k = (List.range k).flatMap fun k => regN (p.log k) (p.sec k) ++ [10]
  | 0 => rfl
  | k + 1 => by
    rw [regsL, regsL_range p k, List.range_succ, List.flatMap_append, regL_words]
    simp [regN]
theorem insL_range (p : Prg) : ∀ k, insL_ p k = (List.range k).flatMap fun k => insN (p.ins k) ++ [10]
  | 0 => rfl
  | k + 1 => by
    rw [insL_, insL_range p k, List.range_succ, List.flatMap_append, line_words]
    simp [insN]
theorem textL_lines (p : Prg) : textL p = (linesP p).flatMap (fun y => y ++ [10]) := by
  unfold textL linesP regsOf codeOf
  rw [regsL_range, insL_range, List.flatMap_append, List.flatMap_map, List.flatMap_map, List.flatMap_map, List.flatMap_map]
theorem split_text (p : Prg) : splitL 10 (textL p) = linesP p ++ [[]] := by
  rw [textL_lines]
  exact split_lines 10 _ (linesP_clean p)
theorem linesP_length (p : Prg) : (linesP p).length = p.rl + p.cl := by simp [linesP, regsOf_length, codeOf_length]
theorem linesP_reg (p : Prg) {k : Nat} (h : k < p.rl) : (linesP p ++ [[]])[k]? = some (regN (p.log k) (p.sec k)) := by
  rw [List.getElem?_append_left (by rw [linesP_length]; omega)]
  unfold linesP
  rw [List.getElem?_append_left (by simp [regsOf_length, h]), List.getElem?_map, regsOf_get p h]
  rfl
theorem linesP_ins (p : Prg) {k : Nat} (h : k < p.cl) : (linesP p ++ [[]])[p.rl + k]? = some (insN (p.ins k)) := by
  rw [List.getElem?_append_left (by rw [linesP_length]; omega)]
  unfold linesP
  rw [List.getElem?_append_right (by simp [regsOf_length]), List.getElem?_map]
  simp [regsOf_length, codeOf_get p h]
theorem pars_regs (p : Prg) (h : RegionsOk p.rl p.log) : ∀ k, k ≤ p.rl → ParsK (linesP p ++ [[]]) k ((regsOf p).take k) []
  | 0, _ => ⟨by simp, rfl⟩
  | k + 1, hk => by
    refine ⟨_, _, _, pars_regs p h k (by omega), linesP_reg p (by omega), .inl ⟨p.log k, p.sec k, ?_, rfl, ?_, rfl⟩⟩
    · unfold regN
      rw [split_reg]
      have := h.2 k (by omega)
      exact ⟨_, rfl, dig_numIs (by unfold B64; omega) 18 (by omega) (by decide) (by decide) (by decide)⟩
    · rw [List.take_add_one, regsOf_get p (by omega)]
      rfl
theorem pars_code (p : Prg) (h : p.Ok 8000 10) (hb : ∀ k, k < p.cl → B64 (p.ins k).n) : ∀ k, k ≤ p.cl → ParsK (linesP p ++ [[]]) (p.rl + k) (regsOf p) ((codeOf p).take k)
  | 0, _ => by
    have := pars_regs p h.1 p.rl (Nat.le_refl _)
    rw [List.take_of_length_le (by rw [regsOf_length]; exact Nat.le_refl _)] at this
    simpa using this
  | k + 1, hk => by
    refine ⟨_, _, _, pars_code p h hb k (by omega), linesP_ins p (by omega), .inr ⟨p.ins k, ?_, rfl, ?_⟩⟩
    · unfold insN
      rw [split_line]
      exact words_line (h.2.2.2 k (by omega)) h.1.1 (hb k (by omega))
    · rw [List.take_add_one, codeOf_get p (by omega)]
      rfl
/-- A program's text is read as it. -/
theorem text_reads (p : Prg) (h : p.Ok 8000 10) (hb : ∀ k, k < p.cl → B64 (p.ins k).n) : ReadsAs (textL p) (regsOf p) (codeOf p) := by
  unfold ReadsAs
  rw [split_text]
  refine ⟨p.rl + p.cl, by simp [linesP_length], ?_, ?_, prgOf_ok h⟩
  · have := pars_code p h hb p.cl (Nat.le_refl _)
    rw [List.take_of_length_le (by rw [codeOf_length]; exact Nat.le_refl _)] at this
    exact this
  · rw [List.getElem?_append_right (by rw [linesP_length]; exact Nat.le_refl _), linesP_length]
    simp
/-- The program so far: its two slices, and their rows. -/
structure P12 (w1 : World) (rs : List (Int × Bool)) (cs : List Ins) (rv cv : Value) (wr : World) : Prop where
  prg : Blk wr w1.heap.size #[rv, cv] 25
  ownR : wr.ownsRow (w1.heap.size + 1) 42 2 rv rs.length (celR rs)
  ownC : wr.ownsRow (w1.heap.size + 1) 49 5 cv cs.length (celI cs)
  more : More w1 wr
theorem P12.up {w1 : World} {rs : List (Int × Bool)} {cs : List Ins} {rv cv : Value} {wr w' : World} (h : P12 w1 rs cs rv cv wr) (m : More wr w') : P12 w1 rs cs rv cv w' := ⟨h.prg.more m, own_more h.ownR m, own_more h.ownC m, h.more.trans m⟩
theorem P12.addC {w1 : World} {rs : List (Int × Bool)} {cs : List Ins} {rv cv : Value} {wr w2 : World} (h : P12 w1 rs cs rv cv wr) (g2 : wr.grownBy w2 cv.ownBlock) {j : Ins} {g c : Nat}
    (own : w2.ownsRow (w1.heap.size + 1) 49 5 (.slice (some ⟨g, 0, none⟩) (cs.length + 1) c) (cs.length + 1) (celI cs ++ celI [j])) : P12 w1 rs (cs ++ [j]) rv (.slice (some ⟨g, 0, none⟩) (cs.length + 1) c) (w2.setCell ⟨w1.heap.size, 1, none⟩ (.slice (some ⟨g, 0, none⟩) (cs.length + 1) c)) := by
  have hb : ∀ b, cv.ownBlock = some b → w1.heap.size + 1 ≤ b := fun b hb => (h.ownC.lt b hb).1
  have hB : Blk w2 w1.heap.size #[rv, cv] 25 := (g2.block _ h.prg.lt (fun e => by have := hb _ e.symm; omega)).trans h.prg
  have hg := (own.lt g rfl).1
  have hr : ∀ b, rv.ownBlock = some b → w1.heap.size + 1 ≤ b := fun b hb => (h.ownR.lt b hb).1
  refine ⟨by simpa using hB.put 1 (.slice (some ⟨g, 0, none⟩) (cs.length + 1) c), ?_, ?_, ?_⟩
  · refine World.ownsRow.kept (World.ownsRow.kept h.ownR g2 (own_apart h.ownR h.ownC (by decide))) (grown_set _ _ _ _) ?_
    cases hv : rv.ownBlock with
    | none => left; rfl
    | some b => right; have := hr b hv; simp; omega
  · rw [celI_app, show (cs ++ [j]).length = cs.length + 1 by simp]
    exact World.ownsRow.kept own (grown_set _ _ _ _) (.inr (by simp [Value.ownBlock]; omega))
  · exact (h.more.grownBy g2 (fun b e => by have := hb b e; omega)).setCell (by show w1.heap.size ≤ _; simp) _
theorem P12.addR {w1 : World} {rs : List (Int × Bool)} {cs : List Ins} {rv cv : Value} {wr w2 : World} (h : P12 w1 rs cs rv cv wr) (g2 : wr.grownBy w2 rv.ownBlock) {j : Int × Bool} {g c : Nat}
    (own : w2.ownsRow (w1.heap.size + 1) 42 2 (.slice (some ⟨g, 0, none⟩) (rs.length + 1) c) (rs.length + 1) (celR rs ++ celR [j])) : P12 w1 (rs ++ [j]) cs (.slice (some ⟨g, 0, none⟩) (rs.length + 1) c) cv (w2.setCell ⟨w1.heap.size, 0, none⟩ (.slice (some ⟨g, 0, none⟩) (rs.length + 1) c)) := by
  have hb : ∀ b, rv.ownBlock = some b → w1.heap.size + 1 ≤ b := fun b hb => (h.ownR.lt b hb).1
  have hB : Blk w2 w1.heap.size #[rv, cv] 25 := (g2.block _ h.prg.lt (fun e => by have := hb _ e.symm; omega)).trans h.prg
  have hg := (own.lt g rfl).1
  have hr : ∀ b, cv.ownBlock = some b → w1.heap.size + 1 ≤ b := fun b hb => (h.ownC.lt b hb).1
  refine ⟨by simpa using hB.put 0 (.slice (some ⟨g, 0, none⟩) (rs.length + 1) c), ?_, ?_, ?_⟩
  · rw [celR_app, show (rs ++ [j]).length = rs.length + 1 by simp]
    exact World.ownsRow.kept own (grown_set _ _ _ _) (.inr (by simp [Value.ownBlock]; omega))
  · refine World.ownsRow.kept (World.ownsRow.kept h.ownC g2 (own_apart h.ownC h.ownR (by decide))) (grown_set _ _ _ _) ?_
    cases hv : cv.ownBlock with
    | none => left; rfl
    | some b => right; have := hr b hv; simp; omega
  · exact (h.more.grownBy g2 (fun b e => by have := hb b e; omega)).setCell (by show w1.heap.size ≤ _; simp) _
/-- Cells of other blocks are left alone. -/
theorem regs_other {w : World} {b o rl : Nat} {log : Nat → Int} {sec : Nat → Bool} (h : RegsAt w b o rl log sec) {b' : Nat} (hb : 0 < rl → b' ≠ b) (o' : Nat) (v : Value) : RegsAt (w.setCell ⟨b', o', none⟩ v) b o rl log sec := fun i hi => by
  have k : ∀ x, (w.setCell ⟨b', o', none⟩ v).cell? ⟨b, x, none⟩ = w.cell? ⟨b, x, none⟩ := fun x => World.cell?_setCell_other _ _ _ _ (by intro e; simp only [Addr.mk.injEq] at e; exact hb (by omega) e.1)
  rw [k, k]
  exact h i hi
theorem code_other {w : World} {b o cl : Nat} {ins : Nat → Ins} (h : CodeAt w b o cl ins) {b' : Nat} (hb : 0 < cl → b' ≠ b) (o' : Nat) (v : Value) : CodeAt (w.setCell ⟨b', o', none⟩ v) b o cl ins := fun i hi => by
  have k : ∀ x, (w.setCell ⟨b', o', none⟩ v).cell? ⟨b, x, none⟩ = w.cell? ⟨b, x, none⟩ := fun x => World.cell?_setCell_other _ _ _ _ (by intro e; simp only [Addr.mk.injEq] at e; exact hb (by omega) e.1)
  rw [k, k, k, k, k]
  exact h i hi
/-- It is a program. -/
theorem P12.pin {w1 : World} {rs : List (Int × Bool)} {cs : List Ins} {rv cv : Value} {wr : World} (h : P12 w1 rs cs rv cv wr) : ∃ l : Loc, rv = .slice l.ra rs.length l.rc ∧ cv = .slice l.ca cs.length l.cc ∧ PIn wr (prgOf rs cs) l ∧ (0 < rs.length → w1.heap.size + 1 ≤ l.rb) ∧ (0 < cs.length → w1.heap.size + 1 ≤ l.cb) := by
  have hR : ∃ (ra : Option Addr) (rb rc : Nat), rv = .slice ra rs.length rc ∧ (0 < rs.length → ra = some ⟨rb, 0, none⟩ ∧ w1.heap.size + 1 ≤ rb) ∧ RegsAt wr rb 0 rs.length (prgOf rs cs).log (prgOf rs cs).sec := by
    by_cases h0 : 0 < rs.length
    · obtain ⟨g, c, hv, hlo, _⟩ := h.ownR.form h0
      subst hv
      refine ⟨_, g, c, rfl, fun _ => ⟨rfl, hlo⟩, fun i hi => ?_⟩
      have e := celR_at rs i _ (List.getElem?_eq_getElem hi)
      have e1 : (prgOf rs cs).log i = rs[i].1 := by simp [prgOf, List.getD_eq_getElem?_getD, List.getElem?_eq_getElem hi]
      have e2 : (prgOf rs cs).sec i = rs[i].2 := by simp [prgOf, List.getD_eq_getElem?_getD, List.getElem?_eq_getElem hi]
      rw [e1, e2]
      simp only [Nat.zero_add]
      exact ⟨by rw [World.ownsRow.cellAt h.ownR _ (by omega)]; exact e.1, by rw [World.ownsRow.cellAt h.ownR _ (by omega)]; exact e.2⟩
    · rcases h.ownR.2 with ⟨rfl, e⟩ | ⟨g, cap, _, rfl, _⟩
      · exact ⟨none, 0, 0, by rw [e], fun h => absurd h h0, fun i hi => absurd (show 0 < rs.length by omega) h0⟩
      · exact ⟨_, 0, _, rfl, fun h => absurd h h0, fun i hi => absurd (show 0 < rs.length by omega) h0⟩
  have hC : ∃ (ca : Option Addr) (cb cc : Nat), cv = .slice ca cs.length cc ∧ (0 < cs.length → ca = some ⟨cb, 0, none⟩ ∧ w1.heap.size + 1 ≤ cb) ∧ CodeAt wr cb 0 cs.length (prgOf rs cs).ins := by
    by_cases h0 : 0 < cs.length
    · obtain ⟨g, c, hv, hlo, _⟩ := h.ownC.form h0
      subst hv
      refine ⟨_, g, c, rfl, fun _ => ⟨rfl, hlo⟩, fun i hi => ?_⟩
      have e := celI_at cs i _ (List.getElem?_eq_getElem hi)
      have e1 : (prgOf rs cs).ins i = cs[i] := by simp [prgOf, List.getD_eq_getElem?_getD, List.getElem?_eq_getElem hi]
      rw [e1]
      simp only [Nat.zero_add]
      exact ⟨by rw [World.ownsRow.cellAt h.ownC _ (by omega)]; exact e.1, by rw [World.ownsRow.cellAt h.ownC _ (by omega)]; exact e.2.1, by rw [World.ownsRow.cellAt h.ownC _ (by omega)]; exact e.2.2.1, by rw [World.ownsRow.cellAt h.ownC _ (by omega)]; exact e.2.2.2.1, by rw [World.ownsRow.cellAt h.ownC _ (by omega)]; exact e.2.2.2.2⟩
    · rcases h.ownC.2 with ⟨rfl, e⟩ | ⟨g, cap, _, rfl, _⟩
      · exact ⟨none, 0, 0, by rw [e], fun h => absurd h h0, fun i hi => absurd (show 0 < cs.length by omega) h0⟩
      · exact ⟨_, 0, _, rfl, fun h => absurd h h0, fun i hi => absurd (show 0 < cs.length by omega) h0⟩
  obtain ⟨ra, rb, rc, r1, r2, r3⟩ := hR
  obtain ⟨ca, cb, cc, c1, c2, c3⟩ := hC
  exact ⟨⟨ra, rb, 0, rc, ca, cb, 0, cc⟩, r1, c1, ⟨fun h => (r2 h).1, fun h => (c2 h).1, r3, c3⟩, fun h => (r2 h).2, fun h => (c2 h).2⟩
end
section
open Go.RowKit
def tri (x y z : Int) (j : Nat) : Int := if j = 0 then x else if j = 1 then y else z
theorem tri_cells {w : World} {g : Nat} {x y z : Int} (h0 : w.cell? ⟨g, 0, none⟩ = some (.int .i64 x)) (h1 : w.cell? ⟨g, 1, none⟩ = some (.int .i64 y)) (h2 : w.cell? ⟨g, 2, none⟩ = some (.int .i64 z)) :
    ∀ j, j < 3 → w.cell? ⟨g, j, none⟩ = some (.int .i64 (tri x y z j)) := by
  intro j hj
  have : j = 0 ∨ j = 1 ∨ j = 2 := by omega
  rcases this with rfl | rfl | rfl
  · exact h0
  · exact h1
  · exact h2

/-- What a shape is told as. -/
def Shape (x y z : Int) (num : Bool) (w : World) (e : Ending) (w' : World) : Prop :=
  ∃ g : Nat, e = .returned (.tuple #[.slice (some ⟨g, 0, none⟩) 3 3, .bool num, .bool true]) ∧ (∀ j, j < 3 → w'.cell? ⟨g, j, none⟩ = some (.int .i64 (tri x y z j))) ∧ More w w'

theorem shape_1 (w : World) : Calls Tryd.prog 47 #[.int .i64 1] w (Shape 1 0 0 true w) := by
  go_enter Tryd.func47, Tryd.ntmps47
  go_wp2
  go_ret3
  exact ⟨w.heap.size, rfl, tri_cells (by go_simp) (by go_simp) (by go_simp), (More.refl _).alloc _ _⟩

theorem shape_2 (w : World) : Calls Tryd.prog 47 #[.int .i64 2] w (Shape 1 1 0 false w) := by
  go_enter Tryd.func47, Tryd.ntmps47
  go_wp2
  go_ret3
  exact ⟨w.heap.size, rfl, tri_cells (by go_simp) (by go_simp) (by go_simp), (More.refl _).alloc _ _⟩

theorem shape_3 (w : World) : Calls Tryd.prog 47 #[.int .i64 3] w (Shape 1 1 2 true w) := by
  go_enter Tryd.func47, Tryd.ntmps47
  go_wp2
  go_ret3
  exact ⟨w.heap.size, rfl, tri_cells (by go_simp) (by go_simp) (by go_simp), (More.refl _).alloc _ _⟩

theorem shape_4 (w : World) : Calls Tryd.prog 47 #[.int .i64 4] w (Shape 1 1 2 true w) := by
  go_enter Tryd.func47, Tryd.ntmps47
  go_wp2
  go_ret3
  exact ⟨w.heap.size, rfl, tri_cells (by go_simp) (by go_simp) (by go_simp), (More.refl _).alloc _ _⟩

theorem shape_5 (w : World) : Calls Tryd.prog 47 #[.int .i64 5] w (Shape 1 0 2 true w) := by
  go_enter Tryd.func47, Tryd.ntmps47
  go_wp2
  go_ret3
  exact ⟨w.heap.size, rfl, tri_cells (by go_simp) (by go_simp) (by go_simp), (More.refl _).alloc _ _⟩

theorem shape_6 (w : World) : Calls Tryd.prog 47 #[.int .i64 6] w (Shape 1 0 2 true w) := by
  go_enter Tryd.func47, Tryd.ntmps47
  go_wp2
  go_ret3
  exact ⟨w.heap.size, rfl, tri_cells (by go_simp) (by go_simp) (by go_simp), (More.refl _).alloc _ _⟩

theorem shape_7 (w : World) : Calls Tryd.prog 47 #[.int .i64 7] w (Shape 0 0 0 true w) := by
  go_enter Tryd.func47, Tryd.ntmps47
  go_wp2
  go_ret3
  exact ⟨w.heap.size, rfl, tri_cells (by go_simp) (by go_simp) (by go_simp), (More.refl _).alloc _ _⟩

theorem shape_8 (w : World) : Calls Tryd.prog 47 #[.int .i64 8] w (Shape 1 1 2 true w) := by
  go_enter Tryd.func47, Tryd.ntmps47
  go_wp2
  go_ret3
  exact ⟨w.heap.size, rfl, tri_cells (by go_simp) (by go_simp) (by go_simp), (More.refl _).alloc _ _⟩

theorem shape_9 (w : World) : Calls Tryd.prog 47 #[.int .i64 9] w (Shape 1 0 0 false w) := by
  go_enter Tryd.func47, Tryd.ntmps47
  go_wp2
  go_ret3
  exact ⟨w.heap.size, rfl, tri_cells (by go_simp) (by go_simp) (by go_simp), (More.refl _).alloc _ _⟩

theorem shape_10 (w : World) : Calls Tryd.prog 47 #[.int .i64 10] w (Shape 1 1 0 true w) := by
  go_enter Tryd.func47, Tryd.ntmps47
  go_wp2
  go_ret3
  exact ⟨w.heap.size, rfl, tri_cells (by go_simp) (by go_simp) (by go_simp), (More.refl _).alloc _ _⟩

theorem shape_11 (w : World) : Calls Tryd.prog 47 #[.int .i64 11] w (Shape 1 0 0 true w) := by
  go_enter Tryd.func47, Tryd.ntmps47
  go_wp2
  go_ret3
  exact ⟨w.heap.size, rfl, tri_cells (by go_simp) (by go_simp) (by go_simp), (More.refl _).alloc _ _⟩

theorem shape_12 (w : World) : Calls Tryd.prog 47 #[.int .i64 12] w (Shape 0 0 0 false w) := by
  go_enter Tryd.func47, Tryd.ntmps47
  go_wp2
  go_ret3
  exact ⟨w.heap.size, rfl, tri_cells (by go_simp) (by go_simp) (by go_simp), (More.refl _).alloc _ _⟩

theorem shape_op (op : Int) (h1 : 20 < op) (h2 : op ≤ 30) (w : World) : Calls Tryd.prog 47 #[.int .i64 op] w (Shape 1 1 1 false w) := by
  go_enter Tryd.func47, Tryd.ntmps47
  go_wp2
  go_ret3
  exact ⟨w.heap.size, rfl, tri_cells (by go_simp) (by go_simp) (by go_simp), (More.refl _).alloc _ _⟩

theorem shape_else (op : Int) (h1 : ¬ op = 1) (h2 : ¬ op = 2) (h3 : ¬ op = 3) (h4 : ¬ op = 4) (h5 : ¬ op = 5) (h6 : ¬ op = 6) (h7 : ¬ op = 7) (h8 : ¬ op = 8) (h9 : ¬ op = 9) (h10 : ¬ op = 10) (h11 : ¬ op = 11) (h12 : ¬ op = 12) (h : ¬ (20 < op ∧ op ≤ 30)) (w : World) : Calls Tryd.prog 47 #[.int .i64 op] w fun e w' => e = .returned (.tuple #[.slice none 0 0, .bool false, .bool false]) ∧ w' = w := by
  by_cases h20 : 20 < op
  · have h30 : ¬ op ≤ 30 := fun k => h ⟨h20, k⟩
    clear h
    go_enter Tryd.func47, Tryd.ntmps47
    go_wp2
    go_ret3
    exact ⟨rfl, rfl⟩
  · clear h
    go_enter Tryd.func47, Tryd.ntmps47
    go_wp2
    go_ret3
    exact ⟨rfl, rfl⟩

set_option maxHeartbeats 400000 in
theorem ref_regions (ra : Option Addr) (rl rc : Nat) (ca : Option Addr) (cl cc : Nat) (b o : Nat) (log : Nat → Int) (sec : Nat → Bool) (w : World)
    (hra : 0 < rl → ra = some ⟨b, o, none⟩) (hr : RegsAt w b o rl log sec) :
    Calls Tryd.prog 32 #[.agg #[.slice ra rl rc, .slice ca cl cc]] w (Says (RegionsOk rl log) w) := by
  by_cases h6 : 6 < rl
  · have Hr : Hid (RegsAt w b o rl log sec) := hr
    clear hr
    have h6' : (6 : Int) < (rl : Int) := by omega
    go_enter Tryd.func32, Tryd.ntmps32
    go_wp2
    go_ret
    exact Says.no (fun h => by have := h.1; omega) ((More.refl _).alloc _ _)
  · have h6' : ¬ (6 : Int) < (rl : Int) := by omega
    have Hr : Hid (RegsAt w b o rl log sec) := hr
    have Ha : Hid (0 < rl → ra = some ⟨b, o, none⟩) := hra
    clear hr hra
    go_enter Tryd.func32, Tryd.ntmps32
    go_wp2
    go_loopg [3] rl (fun g i wr => ∃ k : Nat, k + g = rl ∧ i = .int .i64 k ∧ (∀ j, j < k → 0 ≤ log j ∧ log j ≤ 6) ∧ wr = w.alloc (.cells #[.slice ra rl rc, .slice ca cl cc] 25))
    case atStart => exact ⟨0, by omega, rfl, fun j hj => by omega, rfl⟩
    case round =>
      obtain ⟨k, hkg, rfl, hok, rfl⟩ := hrel
      have Hok : Hid (∀ j, j < k → 0 ≤ log j ∧ log j ≤ 6) := hok
      clear hok
      cases gk with
      | zero =>
        obtain rfl : k = rl := by omega
        go_wp2
        go_ret
        exact Says.yes ⟨by omega, Hok.out⟩ ((More.refl _).alloc _ _)
      | succ g =>
        have hk : k < rl := by omega
        have hk' : (k : Int) < (rl : Int) := by omega
        obtain rfl := Ha.out (by omega)
        have hc0 := ((Hr.out.more ((More.refl _).alloc #[.slice (some ⟨b, o, none⟩) rl rc, .slice ca cl cc] 25)) k hk).1
        by_cases hlo : log k < 0
        · go_wp2
          go_ret
          exact Says.no (fun h => by have := (h.2 k hk).1; omega) ((More.refl _).alloc _ _)
        · by_cases hhi : 6 < log k
          · go_wp2
            go_ret
            exact Says.no (fun h => by have := (h.2 k hk).2; omega) ((More.refl _).alloc _ _)
          · go_wp2
            go_roundg g
            case measure => omega
            case rel =>
              refine ⟨k + 1, by omega, by first | rfl | simp, fun j hj => ?_, rfl⟩
              by_cases e : j = k
              · subst e; omega
              · exact Hok.out j (by omega)

theorem ref_words (l : Int) (h0 : 0 ≤ l) (h1 : l ≤ 6) (s : Bool) (w : World) :
    Calls Tryd.prog 48 #[.agg #[.int .i64 l, .bool s]] w fun e w' => e = .returned (.int .i64 (wordsI l)) ∧ More w w' := by
  obtain ⟨n, rfl⟩ : ∃ n : Nat, l = n := ⟨l.toNat, by omega⟩
  have hn : n ≤ 6 := by omega
  clear h0 h1
  obtain ⟨R, HR⟩ : ∃ R, Hid (wordsI (n : Int) = R) := ⟨_, rfl⟩
  rw [HR.out]
  go_enter Tryd.func48, Tryd.ntmps48
  go_wp2
  go_loopg [3, 4] n (fun g nv i wr => ∃ (k : Nat) (m : Int), k + g = n ∧ m = 2 ^ k ∧ nv = .int .i64 m ∧ i = .int .i64 k ∧ wr = w.alloc (.cells #[.int .i64 n, .bool s] 42))
  case atStart => exact ⟨0, 1, by omega, by decide, rfl, rfl, rfl⟩
  case round =>
    obtain ⟨k, m, hkg, hm, rfl, rfl, rfl⟩ := hrel
    have hb := two_pow_le (k := k) (by omega)
    rw [← hm] at hb
    have Hm : Hid (m = 2 ^ k) := hm
    clear hm
    obtain ⟨b0, b1⟩ := hb
    cases gk with
    | zero =>
      obtain rfl : k = n := by omega
      go_wp2
      go_ret
      refine ⟨?_, (More.refl _).alloc _ _⟩
      rw [Hm.out, ← HR.out]
      simp [wordsI]
    | succ g =>
      have hk' : (k : Int) < (n : Int) := by omega
      go_wp2
      go_roundg g
      case measure => omega
      case rel =>
        refine ⟨k + 1, m + m, by omega, by rw [Int.pow_succ, ← Hm.out]; omega, ?_, by first | rfl | simp, rfl⟩
        first | rfl | (simp; unfold wrap64; omega)
/-- A field: not there (0), a register (1), or something else. -/
def Fld (regs l f : Int) : Prop := (l = 0 → f = 0) ∧ (l = 1 → Reg regs f)

/-- The boxes of the program and of the instruction, in a world that has grown since. -/
theorem boxes2 {w w1 : World} {x0 x1 y0 y1 y2 y3 y4 : Value} {t u : TypeId} (m : More ((w.alloc (.cells #[x0, x1] t)).alloc (.cells #[y0, y1, y2, y3, y4] u)) w1) :
    (w1.cell? ⟨w.heap.size, 0, none⟩ = some x0 ∧ w1.cell? ⟨w.heap.size, 1, none⟩ = some x1) ∧
    w1.cell? ⟨w.heap.size + 1, 0, none⟩ = some y0 ∧ w1.cell? ⟨w.heap.size + 1, 1, none⟩ = some y1 ∧ w1.cell? ⟨w.heap.size + 1, 2, none⟩ = some y2 ∧ w1.cell? ⟨w.heap.size + 1, 3, none⟩ = some y3 ∧ w1.cell? ⟨w.heap.size + 1, 4, none⟩ = some y4 := by
  refine ⟨⟨m.cell (by go_simp), m.cell (by go_simp)⟩, m.cell (by go_simp), m.cell (by go_simp), m.cell (by go_simp), m.cell (by go_simp), m.cell (by go_simp)⟩
set_option maxRecDepth 8000 in
set_option maxHeartbeats 1000000 in
theorem ins_1 (ra : Option Addr) (rl rc : Nat) (ca : Option Addr) (cl cc : Nat) (a b c n regs : Int) (w : World) (P : Prop) (HP : Hid (P ↔ (True ∧ (∀ j, j < 3 → Fld regs (tri 1 0 0 j) (tri a b c j)) ∧ True))) :
    Calls Tryd.prog 33 #[.agg #[.slice ra rl rc, .slice ca cl cc], .agg #[.int .i64 1, .int .i64 a, .int .i64 b, .int .i64 c, .int .i64 n], .int .i64 regs] w (Says P w) := by
  go_enter Tryd.func33, Tryd.ntmps33
  go_wp2_with (fail)
  refine (shape_1 _).mono ?_
  rintro e w1 ⟨g, rfl, hg, m1⟩
  obtain ⟨⟨c0, c1⟩, d0, d1, d2, d3, d4⟩ := boxes2 m1
  have Hg : Hid (∀ j, j < 3 → w1.cell? ⟨g, j, none⟩ = some (.int .i64 (tri 1 0 0 j))) := hg
  have Hm1 : Hid (More w w1) := (((More.refl _).alloc _ _).alloc _ _).trans m1
  clear hg m1
  have HN : Hid True := trivial
  go_wp2
  obtain ⟨W, HW⟩ : ∃ W : World, Hid (W = w1.alloc (.cells #[.int .i64 a, .int .i64 b, .int .i64 c] 3)) := ⟨_, rfl⟩
  have Hm1W : Hid (More w1 W) := HW.out ▸ (More.refl _).alloc _ _
  have Hm : Hid (More w W) := Hm1.out.trans Hm1W.out
  have Hf : Hid (∀ j, j < 3 → W.cell? ⟨w1.heap.size, j, none⟩ = some (.int .i64 (tri a b c j))) := by rw [HW.out]; exact tri_cells (by go_simp) (by go_simp) (by go_simp)
  have Hg' : Hid (∀ j, j < 3 → W.cell? ⟨g, j, none⟩ = some (.int .i64 (tri 1 0 0 j))) := fun j hj => Hm1W.out.cell (Hg.out j hj)
  clear Hg
  replace c0 := Hm1W.out.cell c0
  replace c1 := Hm1W.out.cell c1
  replace d0 := Hm1W.out.cell d0
  replace d1 := Hm1W.out.cell d1
  replace d2 := Hm1W.out.cell d2
  replace d3 := Hm1W.out.cell d3
  replace d4 := Hm1W.out.cell d4
  go_loopg [11] 3 (fun q i wr => ∃ k : Nat, k + q = 3 ∧ i = .int .i64 k ∧ (∀ j, j < k → Fld regs (tri 1 0 0 j) (tri a b c j)) ∧ wr = W)
  case atStart => exact ⟨0, by omega, rfl, fun j hj => by omega, HW.out.symm⟩
  case round =>
    obtain ⟨k, hkg, rfl, hok, rfl⟩ := hrel
    have Hok : Hid (∀ j, j < k → Fld regs (tri 1 0 0 j) (tri a b c j)) := hok
    clear hok
    cases gk with
    | zero =>
      obtain rfl : k = 3 := by omega
      go_wp2
      go_ret
      exact Says.yes (HP.out.2 ⟨HN.out, Hok.out, trivial⟩) Hm.out
    | succ q =>
      clear d0 d1 d2 d3 d4 c0 c1
      have hk : k < 3 := by omega
      have hk' : (k : Int) < 3 := by omega
      have hk0 : (0 : Int) ≤ (k : Int) := by omega
      have qg := Hg'.out k hk
      have qf := Hf.out k hk
      obtain ⟨x, hx⟩ : ∃ x, tri 1 0 0 k = x := ⟨_, rfl⟩
      obtain ⟨y, hy⟩ : ∃ y, tri a b c k = y := ⟨_, rfl⟩
      rw [hx] at qg
      rw [hy] at qf
      have HX : Hid (tri 1 0 0 k = x ∧ tri a b c k = y) := ⟨hx, hy⟩
      clear hx hy
      have step : Hid (Fld regs x y → ∀ j, j < k + 1 → Fld regs (tri 1 0 0 j) (tri a b c j)) := by
        intro h j hj
        by_cases e : j = k
        · subst e; rw [HX.out.1, HX.out.2]; exact h
        · exact Hok.out j (by omega)
      have back : Hid ((∀ j, j < 3 → Fld regs (tri 1 0 0 j) (tri a b c j)) → Fld regs x y) := by
        intro h
        have := h k hk
        rw [HX.out.1, HX.out.2] at this
        exact this
      by_cases hx0 : x = 0
      · subst hx0
        by_cases hy0 : y = 0
        · subst hy0
          go_wp2
          go_roundg q
          case measure => omega
          case rel => exact ⟨k + 1, by omega, by first | rfl | simp, step.out ⟨fun _ => rfl, fun h => by simp at h⟩, rfl⟩
        · have hy1 : (y != 0) = true := by simp [hy0]
          have Hy : Hid (¬ y = 0) := hy0
          clear hy0
          go_wp2
          go_ret
          exact Says.no (fun h => Hy.out ((back.out (HP.out.1 h).2.1).1 rfl)) Hm.out
      by_cases hx1 : x = 1
      · subst hx1
        clear hx0
        by_cases hy0 : y < 0
        · have Hy : Hid (y < 0) := hy0
          go_wp2
          go_ret
          exact Says.no (fun h => by have := ((back.out (HP.out.1 h).2.1).2 rfl).1; have := Hy.out; omega) Hm.out
        by_cases hy1 : regs ≤ y
        · have Hy : Hid (regs ≤ y) := hy1
          go_wp2
          go_ret
          exact Says.no (fun h => by have := ((back.out (HP.out.1 h).2.1).2 rfl).2; have := Hy.out; omega) Hm.out
        have Hy : Hid (Reg regs y) := ⟨by omega, by omega⟩
        go_wp2
        go_roundg q
        case measure => omega
        case rel => exact ⟨k + 1, by omega, by first | rfl | simp, step.out ⟨fun h => by simp at h, fun _ => Hy.out⟩, rfl⟩
      have Hx : Hid (¬ x = 0 ∧ ¬ x = 1) := ⟨hx0, hx1⟩
      have hx2 : (x == 0) = false := by simp [hx0]
      have hx3 : (x == 1) = false := by simp [hx1]
      clear hx0 hx1
      go_wp2
      go_roundg q
      case measure => omega
      case rel => exact ⟨k + 1, by omega, by first | rfl | simp, step.out ⟨fun h => absurd h Hx.out.1, fun h => absurd h Hx.out.2⟩, rfl⟩

set_option maxRecDepth 8000 in
set_option maxHeartbeats 1000000 in
theorem ins_2 (ra : Option Addr) (rl rc : Nat) (ca : Option Addr) (cl cc : Nat) (a b c n regs : Int) (w : World) (P : Prop) (HP : Hid (P ↔ (n = 0 ∧ (∀ j, j < 3 → Fld regs (tri 1 1 0 j) (tri a b c j)) ∧ True))) :
    Calls Tryd.prog 33 #[.agg #[.slice ra rl rc, .slice ca cl cc], .agg #[.int .i64 2, .int .i64 a, .int .i64 b, .int .i64 c, .int .i64 n], .int .i64 regs] w (Says P w) := by
  go_enter Tryd.func33, Tryd.ntmps33
  go_wp2_with (fail)
  refine (shape_2 _).mono ?_
  rintro e w1 ⟨g, rfl, hg, m1⟩
  obtain ⟨⟨c0, c1⟩, d0, d1, d2, d3, d4⟩ := boxes2 m1
  have Hg : Hid (∀ j, j < 3 → w1.cell? ⟨g, j, none⟩ = some (.int .i64 (tri 1 1 0 j))) := hg
  have Hm1 : Hid (More w w1) := (((More.refl _).alloc _ _).alloc _ _).trans m1
  clear hg m1
  by_cases hn0 : n = 0
  rotate_left
  · have HN : Hid (¬ n = 0) := hn0
    have hn1 : (n != 0) = true := by simp [hn0]
    clear hn0
    go_wp2
    go_ret
    exact Says.no (fun h => HN.out (HP.out.1 h).1) Hm1.out
  have HN : Hid (n = 0) := hn0
  have hn1 : (n != 0) = false := by simp [hn0]
  clear hn0
  go_wp2
  obtain ⟨W, HW⟩ : ∃ W : World, Hid (W = w1.alloc (.cells #[.int .i64 a, .int .i64 b, .int .i64 c] 3)) := ⟨_, rfl⟩
  have Hm1W : Hid (More w1 W) := HW.out ▸ (More.refl _).alloc _ _
  have Hm : Hid (More w W) := Hm1.out.trans Hm1W.out
  have Hf : Hid (∀ j, j < 3 → W.cell? ⟨w1.heap.size, j, none⟩ = some (.int .i64 (tri a b c j))) := by rw [HW.out]; exact tri_cells (by go_simp) (by go_simp) (by go_simp)
  have Hg' : Hid (∀ j, j < 3 → W.cell? ⟨g, j, none⟩ = some (.int .i64 (tri 1 1 0 j))) := fun j hj => Hm1W.out.cell (Hg.out j hj)
  clear Hg
  replace c0 := Hm1W.out.cell c0
  replace c1 := Hm1W.out.cell c1
  replace d0 := Hm1W.out.cell d0
  replace d1 := Hm1W.out.cell d1
  replace d2 := Hm1W.out.cell d2
  replace d3 := Hm1W.out.cell d3
  replace d4 := Hm1W.out.cell d4
  go_loopg [11] 3 (fun q i wr => ∃ k : Nat, k + q = 3 ∧ i = .int .i64 k ∧ (∀ j, j < k → Fld regs (tri 1 1 0 j) (tri a b c j)) ∧ wr = W)
  case atStart => exact ⟨0, by omega, rfl, fun j hj => by omega, HW.out.symm⟩
  case round =>
    obtain ⟨k, hkg, rfl, hok, rfl⟩ := hrel
    have Hok : Hid (∀ j, j < k → Fld regs (tri 1 1 0 j) (tri a b c j)) := hok
    clear hok
    cases gk with
    | zero =>
      obtain rfl : k = 3 := by omega
      go_wp2
      go_ret
      exact Says.yes (HP.out.2 ⟨HN.out, Hok.out, trivial⟩) Hm.out
    | succ q =>
      clear d0 d1 d2 d3 d4 c0 c1
      have hk : k < 3 := by omega
      have hk' : (k : Int) < 3 := by omega
      have hk0 : (0 : Int) ≤ (k : Int) := by omega
      have qg := Hg'.out k hk
      have qf := Hf.out k hk
      obtain ⟨x, hx⟩ : ∃ x, tri 1 1 0 k = x := ⟨_, rfl⟩
      obtain ⟨y, hy⟩ : ∃ y, tri a b c k = y := ⟨_, rfl⟩
      rw [hx] at qg
      rw [hy] at qf
      have HX : Hid (tri 1 1 0 k = x ∧ tri a b c k = y) := ⟨hx, hy⟩
      clear hx hy
      have step : Hid (Fld regs x y → ∀ j, j < k + 1 → Fld regs (tri 1 1 0 j) (tri a b c j)) := by
        intro h j hj
        by_cases e : j = k
        · subst e; rw [HX.out.1, HX.out.2]; exact h
        · exact Hok.out j (by omega)
      have back : Hid ((∀ j, j < 3 → Fld regs (tri 1 1 0 j) (tri a b c j)) → Fld regs x y) := by
        intro h
        have := h k hk
        rw [HX.out.1, HX.out.2] at this
        exact this
      by_cases hx0 : x = 0
      · subst hx0
        by_cases hy0 : y = 0
        · subst hy0
          go_wp2
          go_roundg q
          case measure => omega
          case rel => exact ⟨k + 1, by omega, by first | rfl | simp, step.out ⟨fun _ => rfl, fun h => by simp at h⟩, rfl⟩
        · have hy1 : (y != 0) = true := by simp [hy0]
          have Hy : Hid (¬ y = 0) := hy0
          clear hy0
          go_wp2
          go_ret
          exact Says.no (fun h => Hy.out ((back.out (HP.out.1 h).2.1).1 rfl)) Hm.out
      by_cases hx1 : x = 1
      · subst hx1
        clear hx0
        by_cases hy0 : y < 0
        · have Hy : Hid (y < 0) := hy0
          go_wp2
          go_ret
          exact Says.no (fun h => by have := ((back.out (HP.out.1 h).2.1).2 rfl).1; have := Hy.out; omega) Hm.out
        by_cases hy1 : regs ≤ y
        · have Hy : Hid (regs ≤ y) := hy1
          go_wp2
          go_ret
          exact Says.no (fun h => by have := ((back.out (HP.out.1 h).2.1).2 rfl).2; have := Hy.out; omega) Hm.out
        have Hy : Hid (Reg regs y) := ⟨by omega, by omega⟩
        go_wp2
        go_roundg q
        case measure => omega
        case rel => exact ⟨k + 1, by omega, by first | rfl | simp, step.out ⟨fun h => by simp at h, fun _ => Hy.out⟩, rfl⟩
      have Hx : Hid (¬ x = 0 ∧ ¬ x = 1) := ⟨hx0, hx1⟩
      have hx2 : (x == 0) = false := by simp [hx0]
      have hx3 : (x == 1) = false := by simp [hx1]
      clear hx0 hx1
      go_wp2
      go_roundg q
      case measure => omega
      case rel => exact ⟨k + 1, by omega, by first | rfl | simp, step.out ⟨fun h => absurd h Hx.out.1, fun h => absurd h Hx.out.2⟩, rfl⟩

set_option maxRecDepth 8000 in
set_option maxHeartbeats 1000000 in
theorem ins_9 (ra : Option Addr) (rl rc : Nat) (ca : Option Addr) (cl cc : Nat) (a b c n regs : Int) (w : World) (P : Prop) (HP : Hid (P ↔ (n = 0 ∧ (∀ j, j < 3 → Fld regs (tri 1 0 0 j) (tri a b c j)) ∧ True))) :
    Calls Tryd.prog 33 #[.agg #[.slice ra rl rc, .slice ca cl cc], .agg #[.int .i64 9, .int .i64 a, .int .i64 b, .int .i64 c, .int .i64 n], .int .i64 regs] w (Says P w) := by
  go_enter Tryd.func33, Tryd.ntmps33
  go_wp2_with (fail)
  refine (shape_9 _).mono ?_
  rintro e w1 ⟨g, rfl, hg, m1⟩
  obtain ⟨⟨c0, c1⟩, d0, d1, d2, d3, d4⟩ := boxes2 m1
  have Hg : Hid (∀ j, j < 3 → w1.cell? ⟨g, j, none⟩ = some (.int .i64 (tri 1 0 0 j))) := hg
  have Hm1 : Hid (More w w1) := (((More.refl _).alloc _ _).alloc _ _).trans m1
  clear hg m1
  by_cases hn0 : n = 0
  rotate_left
  · have HN : Hid (¬ n = 0) := hn0
    have hn1 : (n != 0) = true := by simp [hn0]
    clear hn0
    go_wp2
    go_ret
    exact Says.no (fun h => HN.out (HP.out.1 h).1) Hm1.out
  have HN : Hid (n = 0) := hn0
  have hn1 : (n != 0) = false := by simp [hn0]
  clear hn0
  go_wp2
  obtain ⟨W, HW⟩ : ∃ W : World, Hid (W = w1.alloc (.cells #[.int .i64 a, .int .i64 b, .int .i64 c] 3)) := ⟨_, rfl⟩
  have Hm1W : Hid (More w1 W) := HW.out ▸ (More.refl _).alloc _ _
  have Hm : Hid (More w W) := Hm1.out.trans Hm1W.out
  have Hf : Hid (∀ j, j < 3 → W.cell? ⟨w1.heap.size, j, none⟩ = some (.int .i64 (tri a b c j))) := by rw [HW.out]; exact tri_cells (by go_simp) (by go_simp) (by go_simp)
  have Hg' : Hid (∀ j, j < 3 → W.cell? ⟨g, j, none⟩ = some (.int .i64 (tri 1 0 0 j))) := fun j hj => Hm1W.out.cell (Hg.out j hj)
  clear Hg
  replace c0 := Hm1W.out.cell c0
  replace c1 := Hm1W.out.cell c1
  replace d0 := Hm1W.out.cell d0
  replace d1 := Hm1W.out.cell d1
  replace d2 := Hm1W.out.cell d2
  replace d3 := Hm1W.out.cell d3
  replace d4 := Hm1W.out.cell d4
  go_loopg [11] 3 (fun q i wr => ∃ k : Nat, k + q = 3 ∧ i = .int .i64 k ∧ (∀ j, j < k → Fld regs (tri 1 0 0 j) (tri a b c j)) ∧ wr = W)
  case atStart => exact ⟨0, by omega, rfl, fun j hj => by omega, HW.out.symm⟩
  case round =>
    obtain ⟨k, hkg, rfl, hok, rfl⟩ := hrel
    have Hok : Hid (∀ j, j < k → Fld regs (tri 1 0 0 j) (tri a b c j)) := hok
    clear hok
    cases gk with
    | zero =>
      obtain rfl : k = 3 := by omega
      go_wp2
      go_ret
      exact Says.yes (HP.out.2 ⟨HN.out, Hok.out, trivial⟩) Hm.out
    | succ q =>
      clear d0 d1 d2 d3 d4 c0 c1
      have hk : k < 3 := by omega
      have hk' : (k : Int) < 3 := by omega
      have hk0 : (0 : Int) ≤ (k : Int) := by omega
      have qg := Hg'.out k hk
      have qf := Hf.out k hk
      obtain ⟨x, hx⟩ : ∃ x, tri 1 0 0 k = x := ⟨_, rfl⟩
      obtain ⟨y, hy⟩ : ∃ y, tri a b c k = y := ⟨_, rfl⟩
      rw [hx] at qg
      rw [hy] at qf
      have HX : Hid (tri 1 0 0 k = x ∧ tri a b c k = y) := ⟨hx, hy⟩
      clear hx hy
      have step : Hid (Fld regs x y → ∀ j, j < k + 1 → Fld regs (tri 1 0 0 j) (tri a b c j)) := by
        intro h j hj
        by_cases e : j = k
        · subst e; rw [HX.out.1, HX.out.2]; exact h
        · exact Hok.out j (by omega)
      have back : Hid ((∀ j, j < 3 → Fld regs (tri 1 0 0 j) (tri a b c j)) → Fld regs x y) := by
        intro h
        have := h k hk
        rw [HX.out.1, HX.out.2] at this
        exact this
      by_cases hx0 : x = 0
      · subst hx0
        by_cases hy0 : y = 0
        · subst hy0
          go_wp2
          go_roundg q
          case measure => omega
          case rel => exact ⟨k + 1, by omega, by first | rfl | simp, step.out ⟨fun _ => rfl, fun h => by simp at h⟩, rfl⟩
        · have hy1 : (y != 0) = true := by simp [hy0]
          have Hy : Hid (¬ y = 0) := hy0
          clear hy0
          go_wp2
          go_ret
          exact Says.no (fun h => Hy.out ((back.out (HP.out.1 h).2.1).1 rfl)) Hm.out
      by_cases hx1 : x = 1
      · subst hx1
        clear hx0
        by_cases hy0 : y < 0
        · have Hy : Hid (y < 0) := hy0
          go_wp2
          go_ret
          exact Says.no (fun h => by have := ((back.out (HP.out.1 h).2.1).2 rfl).1; have := Hy.out; omega) Hm.out
        by_cases hy1 : regs ≤ y
        · have Hy : Hid (regs ≤ y) := hy1
          go_wp2
          go_ret
          exact Says.no (fun h => by have := ((back.out (HP.out.1 h).2.1).2 rfl).2; have := Hy.out; omega) Hm.out
        have Hy : Hid (Reg regs y) := ⟨by omega, by omega⟩
        go_wp2
        go_roundg q
        case measure => omega
        case rel => exact ⟨k + 1, by omega, by first | rfl | simp, step.out ⟨fun h => by simp at h, fun _ => Hy.out⟩, rfl⟩
      have Hx : Hid (¬ x = 0 ∧ ¬ x = 1) := ⟨hx0, hx1⟩
      have hx2 : (x == 0) = false := by simp [hx0]
      have hx3 : (x == 1) = false := by simp [hx1]
      clear hx0 hx1
      go_wp2
      go_roundg q
      case measure => omega
      case rel => exact ⟨k + 1, by omega, by first | rfl | simp, step.out ⟨fun h => absurd h Hx.out.1, fun h => absurd h Hx.out.2⟩, rfl⟩
end
end Go.Proofs.YtoedgnedallhnaaDoor
