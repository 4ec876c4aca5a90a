/- PROVED: the Go function 'alfillaw16.TaskWrites' returns true for every input, and its arguments read behind the call as before, where the listed tables hold what the program's text lays (the card ties them). -/
import Derived.Test.YtlbipjmmlobofaaGreatDoorCards
import Derived.Test.YtlbipjmmlobofaaGreatDoorTie
import Derived.Test.YtlbipjmmlobofaaGreatDoorPkA00
import Derived.Test.YtlbipjmmlobofaaGreatDoorPkA01
import Derived.Test.YtlbipjmmlobofaaGreatDoorPkA02
import Derived.Test.YtlbipjmmlobofaaGreatDoorPkA03
import Derived.Test.YtlbipjmmlobofaaGreatDoorPkA04
import Derived.Test.YtlbipjmmlobofaaGreatDoorPkA05
import Derived.Test.YtlbipjmmlobofaaGreatDoorPkA06
import Derived.Test.YtlbipjmmlobofaaGreatDoorPkA07
import Derived.Test.YtlbipjmmlobofaaGreatDoorPkA08
import Derived.Test.YtlbipjmmlobofaaGreatDoorPkA09
import Derived.Test.YtlbipjmmlobofaaGreatDoorPkA10
import Derived.Test.YtlbipjmmlobofaaGreatDoorPkA11
import Derived.Test.YtlbipjmmlobofaaGreatDoorPkA12
import Derived.Test.YtlbipjmmlobofaaGreatDoorPkA13
import Derived.Test.YtlbipjmmlobofaaGreatDoorPkA14
import Derived.Test.YtlbipjmmlobofaaGreatDoorPkA15
import Derived.Test.YtlbipjmmlobofaaGreatDoorPkA16
import Derived.Test.YtlbipjmmlobofaaGreatDoorPkA17
import Derived.Test.YtlbipjmmlobofaaGreatDoorPkA18
import Derived.Test.YtlbipjmmlobofaaGreatDoorPkA19
import Derived.Test.YtlbipjmmlobofaaGreatDoorPkA20
import Derived.Test.YtlbipjmmlobofaaGreatDoorPkA21
import Derived.Test.YtlbipjmmlobofaaGreatDoorPkA22
import Derived.Test.YtlbipjmmlobofaaGreatDoorPkA23
import Derived.Test.YtlbipjmmlobofaaGreatDoorPkA24
import Derived.Test.YtlbipjmmlobofaaGreatDoorPkA25
import Derived.Test.YtlbipjmmlobofaaGreatDoorPkA26
import Derived.Test.YtlbipjmmlobofaaGreatDoorPkA27
import Derived.Test.YtlbipjmmlobofaaGreatDoorPkA28
import Derived.Test.YtlbipjmmlobofaaGreatDoorPkA29
import Derived.Test.YtlbipjmmlobofaaGreatDoorPkA30
import Derived.Test.YtlbipjmmlobofaaGreatDoorPkA31
import Derived.Test.YtlbipjmmlobofaaGreatDoorPkA32
import Derived.Test.YtlbipjmmlobofaaGreatDoorPkA33
import Derived.Test.YtlbipjmmlobofaaGreatDoorPkA34
import Derived.WalkKit
import Derived.ProofKit
import Derived.OpenShut
import Derived.ShutString
import Derived.Deep.DeepHandedRow
namespace Go.Proofs.YtlbipjmmlobofaaGreatDoor.taskWrites
open Go.ChangeShapes Go.WideShapes Go.ChangeAt Go.RowKit
open Go.ChangeMaps (open_string shut_string)
set_option linter.unusedVariables false

theorem own : ownKnob Tryz.prog.godebug = none := by kernel_rfl
set_option maxRecDepth 100000 in
theorem contract (H : Type) (enc : TypeId × Value → H) (W : World) (base : Nat) (args : Array Value) (ds gs : List (DataW H)) (before : List MemPlace)
    (hval : ∀ (j : Nat) t v, Tryz.f3.params[j]? = some t → args[j]? = some v → Value.okWide Tryz.prog W .any base t v)
    (hW : DataW.Whole enc Tryz.prog Tryz.f3.params.toList Rows.taskWritesSpec.vars false W args.toList ds gs before) (hL : laidMetH Tryz.prog Rows.taskWritesRow.laid W) :
    Calls Tryz.prog 3 args W fun e W' => ∃ v, e = .returned v ∧ Rows.taskWritesSpec.post enc Tryz.prog Tryz.f3 false true false false W args v W' := by
  have hW' := hW
  obtain ⟨p, q, hA0, hV, rfl, hfz, hnd⟩ := hW
  have hA : DataW.TrodAll enc Tryz.prog W 0 (fun _ => true) true Tryz.f3.params.toList args.toList ds p := hA0
  rw [Tryz.params3] at hA hval
  obtain ⟨v0, vs0, d0, ds0, p0, q0, hargs, rfl, rfl, h0, r0⟩ := trodAll_cons hA
  obtain ⟨rfl, rfl, rfl⟩ := trodAll_nil r0
  obtain rfl : args = #[v0] := by cases args; simp_all
  obtain ⟨rfl, rfl⟩ := trodVars_none hV
  obtain ⟨a0, w0, rfl, rfl, rfl⟩ := open_task (hval 0 30 v0 rfl rfl) h0
  clear hA0
  refine (walkTaskWrites a0 w0.brd W (tabsP_of hL)).mono fun e W' ⟨he, hg⟩ => ?_
  subst he
  exact ⟨_, rfl, post_kept (pa := []) (pv := []) hW' (trodAll_cons_mk (shut_bool Tryz.underlying4 _) trodAll_mk0) (trodAll_cons_mk (shut_task a0 w0) trodAll_mk0) rfl hg⟩

noncomputable def laidWorld (os : Os) : World :=
  { World.holding Tryz.prog os ⟨#[], #[], []⟩ with heap := (((((((((((World.holding Tryz.prog os ⟨#[], #[], []⟩).heap.modify 7 fun
      | .cells _ t frozen => .cells #[.int .u8 (0), .int .u8 (1), .int .u8 (28), .int .u8 (2), .int .u8 (29), .int .u8 (14), .int .u8 (24), .int .u8 (3), .int .u8 (30), .int .u8 (22), .int .u8 (20), .int .u8 (15), .int .u8 (25), .int .u8 (17), .int .u8 (4), .int .u8 (8), .int .u8 (31), .int .u8 (27), .int .u8 (13), .int .u8 (23), .int .u8 (21), .int .u8 (19), .int .u8 (16), .int .u8 (7), .int .u8 (26), .int .u8 (12), .int .u8 (18), .int .u8 (6), .int .u8 (11), .int .u8 (5), .int .u8 (10), .int .u8 (9)] t frozen
      | o => o).modify 8 fun
      | .cells _ t frozen => .cells #[.int .u8 (0), .int .u8 (1), .int .u8 (56), .int .u8 (2), .int .u8 (57), .int .u8 (49), .int .u8 (28), .int .u8 (3), .int .u8 (61), .int .u8 (58), .int .u8 (42), .int .u8 (50), .int .u8 (38), .int .u8 (29), .int .u8 (17), .int .u8 (4), .int .u8 (62), .int .u8 (47), .int .u8 (59), .int .u8 (36), .int .u8 (45), .int .u8 (43), .int .u8 (51), .int .u8 (22), .int .u8 (53), .int .u8 (39), .int .u8 (33), .int .u8 (30), .int .u8 (24), .int .u8 (18), .int .u8 (12), .int .u8 (5), .int .u8 (63), .int .u8 (55), .int .u8 (48), .int .u8 (27), .int .u8 (60), .int .u8 (41), .int .u8 (37), .int .u8 (16), .int .u8 (46), .int .u8 (35), .int .u8 (44), .int .u8 (21), .int .u8 (52), .int .u8 (32), .int .u8 (23), .int .u8 (11), .int .u8 (54), .int .u8 (26), .int .u8 (40), .int .u8 (15), .int .u8 (34), .int .u8 (20), .int .u8 (31), .int .u8 (10), .int .u8 (25), .int .u8 (14), .int .u8 (19), .int .u8 (9), .int .u8 (13), .int .u8 (8), .int .u8 (7), .int .u8 (6)] t frozen
      | o => o).modify 5 fun
      | .cells _ t frozen => .cells #[.int .u64 (1), .int .u64 (10), .int .u64 (100), .int .u64 (1000), .int .u64 (10000), .int .u64 (100000), .int .u64 (1000000), .int .u64 (10000000), .int .u64 (100000000), .int .u64 (1000000000), .int .u64 (10000000000), .int .u64 (100000000000), .int .u64 (1000000000000), .int .u64 (10000000000000), .int .u64 (100000000000000), .int .u64 (1000000000000000), .int .u64 (10000000000000000), .int .u64 (100000000000000000), .int .u64 (1000000000000000000), .int .u64 (10000000000000000000)] t frozen
      | o => o).modify 10 fun
      | .cells _ t frozen => .cells #[.int .u8 (128), .int .u8 (191), .int .u8 (160), .int .u8 (191), .int .u8 (128), .int .u8 (159), .int .u8 (144), .int .u8 (191), .int .u8 (128), .int .u8 (143), .int .u8 (0), .int .u8 (0), .int .u8 (0), .int .u8 (0), .int .u8 (0), .int .u8 (0), .int .u8 (0), .int .u8 (0), .int .u8 (0), .int .u8 (0), .int .u8 (0), .int .u8 (0), .int .u8 (0), .int .u8 (0), .int .u8 (0), .int .u8 (0), .int .u8 (0), .int .u8 (0), .int .u8 (0), .int .u8 (0), .int .u8 (0), .int .u8 (0)] t frozen
      | o => o).modify 6 fun
      | .cells _ t frozen => .cells #[.int .i64 (0), .int .i64 (1), .int .i64 (1), .int .i64 (0), .int .i64 (0), .int .i64 (-1), .int .i64 (-1), .int .i64 (0), .int .i64 (1), .int .i64 (1), .int .i64 (1), .int .i64 (-1), .int .i64 (-1), .int .i64 (-1), .int .i64 (-1), .int .i64 (1), .int .i64 (1), .int .i64 (2), .int .i64 (2), .int .i64 (1), .int .i64 (2), .int .i64 (-1), .int .i64 (1), .int .i64 (-2), .int .i64 (-1), .int .i64 (-2), .int .i64 (-2), .int .i64 (-1), .int .i64 (-2), .int .i64 (1), .int .i64 (-1), .int .i64 (2)] t frozen
      | o => o).modify 2 fun
      | .cells _ t frozen => .cells #[.int .i64 (1), .int .i64 (0), .int .i64 (4), .int .i64 (7), .int .i64 (2), .int .i64 (0), .int .i64 (4), .int .i64 (0), .int .i64 (4), .int .i64 (1), .int .i64 (60), .int .i64 (63), .int .i64 (8), .int .i64 (1), .int .i64 (60), .int .i64 (56)] t frozen
      | o => o).modify 3 fun
      | .cells _ t frozen => .cells #[.int .i64 (5), .int .i64 (1), .int .i64 (2), .int .i64 (-1)] t frozen
      | o => o).modify 0 fun
      | .cells _ t frozen => .cells #[.string ⟨#[]⟩, .string ⟨#[115]⟩, .string ⟨#[114]⟩, .string ⟨#[115, 101, 109, 105, 45, 114]⟩, .string ⟨#[104]⟩, .string ⟨#[115, 101, 114, 45, 104]⟩, .string ⟨#[115, 101, 114, 45]⟩] t frozen
      | o => o).modify 1 fun
      | .cells _ t frozen => .cells #[.string ⟨#[35]⟩, .string ⟨#[61]⟩] t frozen
      | o => o).modify 9 fun
      | .cells _ t frozen => .cells (Go.Pinned.utf8FirstZ.toArray.map fun (n : Nat) => Value.int .u8 (n : Int)) t frozen
      | o => o) }
theorem laid_met (os : Os) : laidMet Tryz.prog Rows.taskWritesRow.laid ((laidWorld os).forCall (fun _ _ => 0) ⟨#[], #[kv Z75], []⟩).memory :=
  laidMet_of_run' 8 (by kernel_rfl) (by kernel_rfl)
theorem reads (os : Os) {H : Type} (enc : TypeId × Value → H) : ∃ places, DataW.whole enc Tryz.prog ((laidWorld os).forCall (fun _ _ => 0) ⟨#[], #[kv Z75], []⟩).memory Tryz.f3.params.toList Rows.taskWritesSpec.vars false (#[kv Z75] : Array Value).toList 8 = some ([dK H Z75], [], places) :=
  ⟨[], by kernel_rfl⟩

set_option maxRecDepth 100000 in
theorem lifted (os : Os) (started : os.Started) (H : Type) (enc : TypeId × Value → H) (F : Stop.Interp) :
    ReturnsInHanded {} Tryz.checked os 3 .any ((OpenSpec.ofChange Rows.taskWritesSpec).preRow enc Tryz.prog Tryz.f3 Rows.taskWritesRow.domain false Rows.taskWritesRow.laid) (((OpenSpec.ofChange Rows.taskWritesSpec).at F).post enc Tryz.prog Tryz.f3 false true false false) := by
  obtain ⟨places, hx⟩ := reads os enc
  refine returnsInHanded_of_row (C := Tryz.checked) (s := OpenSpec.ofChange Rows.taskWritesSpec) own started (by kernel_rfl) Tryz.func3
    (witness_row_at (enc := enc) (C := Tryz.checked) false (laidWorld os) #[kv Z75] rfl (by kernel_rfl) (by kernel_rfl) (by kernel_rfl)
      (OpenSpec.preRow_of_cond 8 hx (by kernel_rfl) (fun k hk => by cases hk) (by kernel_rfl) (laid_met os))) ?_
  intro W base args ds gs before hval hW _ _ _ hL _ _
  exact contract H enc W base args ds gs before hval hW hL

theorem said : Rows.TaskWritesSaid :=
  OpenClaim.holds_of_cond 3 Tryz.f3 rfl rfl rfl rfl rfl rfl rfl ⟨rfl, rfl, rfl, rfl, rfl⟩ rfl rfl rfl rfl rfl (by kernel_rfl) Tryz.func3 (by kernel_rfl)
    (of_decide_eq_true (by kernel_rfl)) (by unfold Func.isWrapper; first | (rw [if_pos (by decide +kernel)]; kernel_rfl) | (rw [if_neg (by decide +kernel)]; exact ⟨rfl, rfl⟩))
    (fun os started H enc _ F => by rw [OpenClaim.pre_eq_preRow]; exact lifted os started H enc F)

theorem plain (f : FuncId) (fn : Func) (hf : Tryz.pinned.checked.prog.funcNamed "alfil/alfillaw16.TaskWrites" = some f) (hfn : Tryz.pinned.checked.prog.funcs[f]? = some fn) :
    false = Tryz.pinned.checked.prog.looks [] ∧ ∀ (j : Nat) t, fn.params[j]? = some t → Tryz.pinned.checked.prog.wantsStandIn t = false := by
  obtain rfl : f = 3 := Option.some.inj ((show Tryz.prog.funcNamed "alfil/alfillaw16.TaskWrites" = some 3 by kernel_rfl).symm.trans hf) |>.symm
  obtain rfl : fn = Tryz.f3 := (Option.some.inj (Tryz.func3.symm.trans hfn)).symm
  refine ⟨by kernel_rfl, fun j t ht => ?_⟩
  rw [Tryz.params3] at ht
  have ht2 := Array.mem_of_getElem? ht
  simp only [List.mem_toArray, List.mem_cons, List.not_mem_nil, or_false] at ht2
  have hd : t = 30 := by first | exact ht2 | simpa using ht2
  rcases hd with rfl
  · exact (show Tryz.prog.wantsStandIn 30 = false by kernel_rfl)

/-- The card. -/
theorem card : Rows.TaskWritesCardSaid :=
  Claim7.holds_tied_plain_at .later [] _ _ _ _ said (fun _ h => by cases h) (by kernel_rfl) (fun _ h => by cases h) taskWrites_row_tie rfl ⟨rfl, rfl⟩ (by kernel_rfl) rfl plain (by kernel_rfl)
#print axioms card
end Go.Proofs.YtlbipjmmlobofaaGreatDoor.taskWrites
