/-
  Proved: for every two scripts DriveOn returns true (the answer to the one with the other one behind it begins with the answer to the one) and leaves its arguments as they were. What the tables of the program and of the library hold is tied to the program's text; that nothing else writes them is the translator's report, over the pruned copy of the project.
-/
import Derived.Test.YtephohhigbfafaaGreatDoorRows
import Derived.Test.YtephohhigbfafaaGreatDoorTie
import Derived.Test.YtephohhigbfafaaGreatDoorCards
import Derived.WalkKit
import Derived.ProofKit
import Derived.OpenShut
import Derived.JoinedCond
import Derived.Deep.DeepHandedRow
import Derived.SevenTiedAt
import Derived.Test.YtephohhigbfafaaGreatDoorJoined6
import Derived.Test.YtephohhigbfafaaGreatDoorJoined11
import Derived.Deep.DeepWitnessRowRef
import Derived.ChangeMaps5
import Derived.SizedLaws
namespace Go.Proofs.YtephohhigbfafaaGreatDoor
open Go.ChangeShapes Go.WideShapes Go.ChangeAt Go.RowKit Go.Deep
set_option linter.unusedVariables false
set_option linter.unusedSimpArgs false
set_option maxRecDepth 8000

namespace driveOn

theorem own : ownKnob Tryz.prog.godebug = none := by kernel_rfl
theorem Jb7 : laidOutB Tryz.prog = true := by kernel_rfl

theorem walk (s t : ByteArray) (w : World) (hL : LaiD w ∧ 8 ≤ w.heap.size) (hs : s.size ≤ 140737488355328) (ht : t.size ≤ 140737488355328) : Calls Tryz.prog 4 #[.string s, .string t] w fun e w' => e = .returned (.bool true) ∧ More w w' := by
  have e : txt s.data.toList = s := (J78 rfl).symm
  have f : txt t.data.toList = t := (J78 rfl).symm
  have hl : s.data.toList.length ≤ 140737488355328 := by rw [← J0e, e]; exact hs
  have hk : t.data.toList.length ≤ 140737488355328 := by rw [← J0e, f]; exact ht
  have := Jau s.data.toList t.data.toList w hL.1 hL.2 hl hk
  rw [e, f] at this
  exact this

/-- The numbers of a table that is listed. -/
def lits : DataW Unit → Array Value
  | .agg l => (l.filterMap fun | .lit (.int k n) => some (Value.int k n) | _ => none).toArray
  | _ => #[]

/-- The texts of a table that is listed. -/
def strs : DataW Unit → Array Value
  | .agg l => (l.filterMap fun | .lit (.string t) => some (Value.string ⟨t.toArray⟩) | _ => none).toArray
  | _ => #[]

/-- The text of an error that is listed. -/
def errT : DataW Unit → ByteArray
  | .iface _ (.ptr (.agg [.lit (.string l)])) => ⟨l.toArray⟩
  | _ => ⟨#[]⟩
/-- A variable's block, laid. -/
def setG (h : Array Obj) (g : Nat) (cs : Array Value) : Array Obj := h.modify g fun
  | .cells _ t f => .cells cs t f
  | o => o

theorem Jan (H : Type) (enc : TypeId × Value → H) (W : World) (base : Nat) (args : Array Value) (ds gs : List (DataW H)) (before : List MemPlace)
    (hval : ∀ (j : Nat) t v, Tryz.f4.params[j]? = some t → args[j]? = some v → Value.okWide Tryz.prog W .any base t v)
    (hW : DataW.Whole enc Tryz.prog Tryz.f4.params.toList Rows.driveOnSpec.vars false W args.toList ds gs before) (hsz : (DataW.weightsEach Tryz.prog (Tryz.f4.params.toList ++ Rows.driveOnSpec.plain.varTypes Tryz.prog) (ds ++ gs)).all (· ≤ reachBytes) = true) (hL : laidMetH Tryz.prog Rows.driveOnRow.laid W) :
    Calls Tryz.prog 4 args W fun e W' => ∃ v, e = .returned v ∧ Rows.driveOnSpec.post enc Tryz.prog Tryz.f4 false true false false W args v W' := by
  have hW' := hW
  obtain ⟨p, q, hA0, hV, rfl, hfz, hnd⟩ := hW
  have hA : DataW.TrodAll enc Tryz.prog W 0 (fun _ => true) true Tryz.f4.params.toList args.toList ds p := hA0
  rw [Tryz.params4] at hA hval hsz
  obtain ⟨v0, vs0, d0, ds0, p0, q0, hargs, rfl, rfl, h0, r0⟩ := trodAll_cons hA
  obtain ⟨v1, vs1, d1, ds1, p1, q1, rfl, rfl, rfl, h1, r1⟩ := trodAll_cons r0
  obtain ⟨rfl, rfl, rfl⟩ := trodAll_nil r1
  obtain rfl : args = #[v0, v1] := by cases args; simp_all
  obtain ⟨rfl, rfl⟩ := trodVars_none hV
  have lt0 : ∀ x ∈ p0, x.block < W.heap.size := by obtain ⟨m, hm⟩ := h0; exact DataW.trod_lt m _ _ _ hm
  have lt1 : ∀ x ∈ p1, x.block < W.heap.size := by obtain ⟨m, hm⟩ := h1; exact DataW.trod_lt m _ _ _ hm
  obtain ⟨s0, rfl, rfl, rfl, hs0⟩ := Go.ChangeMaps.open_string Tryz.underlying9 (hval 0 9 v0 rfl rfl) h0
  obtain ⟨s1, rfl, rfl, rfl, hs1⟩ := Go.ChangeMaps.open_string Tryz.underlying9 (hval 1 9 v1 rfl rfl) h1
  have hlim : s0.size ≤ 140737488355328 := by
    have h1 := sized_string hsz (j := 0) (t := 9) rfl rfl
    have h2 := reachBytes_lt
    have e1 : s0.size = s0.data.size := rfl
    have e2 : s0.data.toList.length = s0.data.size := Array.length_toList
    have e3 : (2 : Nat) ^ 47 = 140737488355328 := by decide
    omega
  have hlim1 : s1.size ≤ 140737488355328 := by
    have h1 := sized_string hsz (j := 1) (t := 9) rfl rfl
    have h2 := reachBytes_lt
    have e1 : s1.size = s1.data.size := rfl
    have e2 : s1.data.toList.length = s1.data.size := Array.length_toList
    have e3 : (2 : Nat) ^ 47 = 140737488355328 := by decide
    omega
  clear hA0
  refine (walk s0 s1 W (Jcl hL) hlim hlim1).mono fun e W' ⟨he, bel⟩ => ?_
  subst he
  exact ⟨_, rfl, _, _, _, [], _, [], hW', trodAll_mk1 (shut_bool Tryz.underlying4 _), (trodAll_cons_mk (Below.trod Jb7 (by kernel_rfl) (of_decide_eq_true (by kernel_rfl)) h0 bel lt0) (trodAll_cons_mk (Below.trod Jb7 (by kernel_rfl) (of_decide_eq_true (by kernel_rfl)) h1 bel lt1) trodAll_mk0)), rfl, Below.frame bel _, fun h => by cases h⟩

/-- A start that fits: the settled world, the tables as they are listed. -/
theorem start (os : Os) (H : Type) (enc : TypeId × Value → H) : ∃ w0 : World, w0.os = os ∧ (w0.forCall (fun _ _ => 0) ⟨#[], #[.string ⟨#[]⟩, .string ⟨#[]⟩], []⟩).variablesRefB Tryz.checked.prog = true ∧
    ((w0.forCall (fun _ _ => 0) ⟨#[], #[.string ⟨#[]⟩, .string ⟨#[]⟩], []⟩).heap.toList.drop Tryz.checked.prog.globals.size).take ((begin Tryz.checked.prog (fun _ _ => 0) default).world.heap.size - Tryz.checked.prog.globals.size) = (begin Tryz.checked.prog (fun _ _ => 0) default).world.heap.toList.drop Tryz.checked.prog.globals.size ∧
    Input.okWideB Tryz.checked.prog (w0.forCall (fun _ _ => 0) ⟨#[], #[.string ⟨#[]⟩, .string ⟨#[]⟩], []⟩) 4 ⟨#[], #[.string ⟨#[]⟩, .string ⟨#[]⟩], []⟩ = true ∧
    laidMet Tryz.prog Rows.driveOnRow.laid (w0.forCall (fun _ _ => 0) ⟨#[], #[.string ⟨#[]⟩, .string ⟨#[]⟩], []⟩).memory ∧
    ∃ places, DataW.whole enc Tryz.prog (w0.forCall (fun _ _ => 0) ⟨#[], #[.string ⟨#[]⟩, .string ⟨#[]⟩], []⟩).memory Tryz.f4.params.toList Rows.driveOnSpec.vars false #[Value.string ⟨#[]⟩, Value.string ⟨#[]⟩].toList 8 = some ([.lit (.string []), .lit (.string [])], [], places) := by
  refine ⟨{ World.holding Tryz.prog os ⟨#[.cells #[.string (errT Rows.laid_strconv_ErrSyntax)] 231, .cells #[.string (errT Rows.laid_strconv_ErrRange)] 231], #[], []⟩ with heap := setG (setG (setG (setG (setG (setG (setG (World.holding Tryz.prog os ⟨#[.cells #[.string (errT Rows.laid_strconv_ErrSyntax)] 231, .cells #[.string (errT Rows.laid_strconv_ErrRange)] 231], #[], []⟩).heap 1 kindsC.toArray) 3 (lits Rows.laid_internal_strconv_uint64pow10)) 6 (lits Rows.laid_math_bits_deBruijn32tab)) 7 (lits Rows.laid_math_bits_deBruijn64tab)) 4 #[.iface 229 (.pointer (some ⟨13, 0, none⟩))]) 5 #[.iface 229 (.pointer (some ⟨13 + 1, 0, none⟩))]) 0 (strs Rows.laid_evenkeel_drive_ends) }, rfl, by kernel_rfl, by kernel_rfl, by kernel_rfl, ?_, [], by kernel_rfl⟩
  exact laidMet_of_run' 8 (by kernel_rfl) (by kernel_rfl)

set_option maxRecDepth 100000 in
theorem Jiz (os : Os) (started : os.Started) (H : Type) (enc : TypeId × Value → H) (F : Stop.Interp) :
    ReturnsInHanded {} Tryz.checked os 4 .any ((OpenSpec.ofChange Rows.driveOnSpec).preRow enc Tryz.prog Tryz.f4 Rows.driveOnRow.domain false Rows.driveOnRow.laid) (((OpenSpec.ofChange Rows.driveOnSpec).at F).post enc Tryz.prog Tryz.f4 false true false false) := by
  obtain ⟨w0, h1, h2, h3, h4, h5, places, hx⟩ := start os H enc
  refine returnsInHanded_of_row (C := Tryz.checked) (s := OpenSpec.ofChange Rows.driveOnSpec) own started (by kernel_rfl) Tryz.func4
    (witness_row_atRef (enc := enc) (C := Tryz.checked) false w0 #[.string ⟨#[]⟩, .string ⟨#[]⟩] h1 h2 h3 h4
      (OpenSpec.preRow_of_cond 8 hx (by kernel_rfl) (fun k hk => by cases hk) (by kernel_rfl) h5)) ?_
  intro W base args ds gs before hval hW _ _ hsz hL _ _
  exact Jan H enc W base args ds gs before hval hW hsz hL

theorem said : Rows.DriveOnSaid :=
  OpenClaim.holds_of_cond 4 Tryz.f4 rfl rfl rfl rfl rfl rfl rfl ⟨rfl, rfl, rfl, rfl, rfl⟩ rfl rfl rfl rfl rfl (by kernel_rfl) Tryz.func4 (by kernel_rfl)
    (of_decide_eq_true (by kernel_rfl)) (by unfold Func.isWrapper; first | (rw [if_pos (by decide +kernel)]; kernel_rfl) | (rw [if_neg (by decide +kernel)]; exact ⟨rfl, rfl⟩))
    (fun os started H enc _ F => by rw [OpenClaim.pre_eq_preRow]; exact Jiz os started H enc F)

theorem plain (f : FuncId) (fn : Func) (hf : Tryz.pinned.checked.prog.funcNamed Rows.driveOnRow.func = some f) (hfn : Tryz.pinned.checked.prog.funcs[f]? = some fn) :
    true = Tryz.pinned.checked.prog.looks [] ∧ ∀ (j : Nat) t, fn.params[j]? = some t → Tryz.pinned.checked.prog.wantsStandIn t = false := by
  obtain rfl : f = 4 := Option.some.inj ((show Tryz.prog.funcNamed Rows.driveOnRow.func = some 4 by kernel_rfl).symm.trans hf) |>.symm
  obtain rfl : fn = Tryz.f4 := (Option.some.inj (Tryz.func4.symm.trans hfn)).symm
  refine ⟨by kernel_rfl, fun j t ht => ?_⟩
  rw [Tryz.params4] at ht
  obtain rfl : t = 9 := by simpa using Array.mem_of_getElem? ht
  exact (show Tryz.prog.wantsStandIn 9 = false by kernel_rfl)

end driveOn

/-- The given statement. -/
theorem driveOn_holds : Rows.DriveOnCardSaid :=
  Claim7.holds_tied_plain_at .later [] _ _ _ _ driveOn.said (fun _ h => by cases h) (by kernel_rfl) (fun _ h => by cases h) driveOn_row_tie rfl ⟨rfl, rfl⟩ (by kernel_rfl) rfl driveOn.plain (by kernel_rfl)
#print axioms driveOn_holds
end Go.Proofs.YtephohhigbfafaaGreatDoor
