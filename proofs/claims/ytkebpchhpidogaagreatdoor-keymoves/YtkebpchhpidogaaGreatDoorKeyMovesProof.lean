/- PROVED: the Go function 'alfillaw17.KeyMoves' returns true for every input, and its arguments read behind the call as before, where the listed tables hold what the program's text lays (the card ties them). -/
import Derived.Test.YtkebpchhpidogaaGreatDoorCards
import Derived.Test.YtkebpchhpidogaaGreatDoorTie
import Derived.Test.YtkebpchhpidogaaGreatDoorPkA00
import Derived.Test.YtkebpchhpidogaaGreatDoorPkA01
import Derived.Test.YtkebpchhpidogaaGreatDoorPkA02
import Derived.Test.YtkebpchhpidogaaGreatDoorPkA03
import Derived.Test.YtkebpchhpidogaaGreatDoorPkA04
import Derived.Test.YtkebpchhpidogaaGreatDoorPkA05
import Derived.Test.YtkebpchhpidogaaGreatDoorPkA06
import Derived.Test.YtkebpchhpidogaaGreatDoorPkA07
import Derived.Test.YtkebpchhpidogaaGreatDoorPkA08
import Derived.Test.YtkebpchhpidogaaGreatDoorPkA09
import Derived.Test.YtkebpchhpidogaaGreatDoorPkA10
import Derived.Test.YtkebpchhpidogaaGreatDoorPkA11
import Derived.Test.YtkebpchhpidogaaGreatDoorPkA12
import Derived.Test.YtkebpchhpidogaaGreatDoorPkA13
import Derived.Test.YtkebpchhpidogaaGreatDoorPkA14
import Derived.Test.YtkebpchhpidogaaGreatDoorPkA15
import Derived.Test.YtkebpchhpidogaaGreatDoorPkA16
import Derived.Test.YtkebpchhpidogaaGreatDoorPkA17
import Derived.Test.YtkebpchhpidogaaGreatDoorPkA18
import Derived.Test.YtkebpchhpidogaaGreatDoorPkA19
import Derived.Test.YtkebpchhpidogaaGreatDoorPkA20
import Derived.Test.YtkebpchhpidogaaGreatDoorPkA21
import Derived.Test.YtkebpchhpidogaaGreatDoorPkA22
import Derived.Test.YtkebpchhpidogaaGreatDoorPkA23
import Derived.WalkKit
import Derived.ProofKit
import Derived.OpenShut
import Derived.ShutString
import Derived.Deep.DeepHandedRow
namespace Go.Proofs.YtkebpchhpidogaaGreatDoor.keyMoves
open Go.ChangeShapes Go.WideShapes Go.ChangeAt Go.RowKit
open Go.ChangeMaps (open_string shut_string)
set_option linter.unusedVariables false

theorem own : ownKnob Tryz.prog.godebug = none := by kernel_rfl
set_option maxRecDepth 100000 in
theorem contract (H : Type) (enc : TypeId × Value → H) (W : World) (base : Nat) (args : Array Value) (ds gs : List (DataW H)) (before : List MemPlace)
    (hval : ∀ (j : Nat) t v, Tryz.f3.params[j]? = some t → args[j]? = some v → Value.okWide Tryz.prog W .any base t v)
    (hW : DataW.Whole enc Tryz.prog Tryz.f3.params.toList Rows.keyMovesSpec.vars false W args.toList ds gs before) (hL : laidMetH Tryz.prog Rows.keyMovesRow.laid W) :
    Calls Tryz.prog 3 args W fun e W' => ∃ v, e = .returned v ∧ Rows.keyMovesSpec.post enc Tryz.prog Tryz.f3 false true false false W args v W' := by
  have hW' := hW
  obtain ⟨p, q, hA0, hV, rfl, hfz, hnd⟩ := hW
  have hA : DataW.TrodAll enc Tryz.prog W 0 (fun _ => true) true Tryz.f3.params.toList args.toList ds p := hA0
  rw [Tryz.params3] at hA hval
  obtain ⟨v0, vs0, d0, ds0, p0, q0, hargs, rfl, rfl, h0, r0⟩ := trodAll_cons hA
  obtain ⟨rfl, rfl, rfl⟩ := trodAll_nil r0
  obtain rfl : args = #[v0] := by cases args; simp_all
  obtain ⟨rfl, rfl⟩ := trodVars_none hV
  obtain ⟨a0, w0, rfl, rfl, rfl⟩ := open_pos (hval 0 26 v0 rfl rfl) h0
  clear hA0
  refine (walkKeyMoves a0 w0.brd W (tabG_of hL)).mono fun e W' ⟨he, hg⟩ => ?_
  subst he
  exact ⟨_, rfl, post_kept (pa := []) (pv := []) hW' (trodAll_cons_mk (shut_bool Tryz.underlying4 _) trodAll_mk0) (trodAll_cons_mk (shut_pos a0 w0) trodAll_mk0) rfl hg⟩

noncomputable def laidWorld (os : Os) : World :=
  { World.holding Tryz.prog os ⟨#[], #[], []⟩ with heap := ((((((((((World.holding Tryz.prog os ⟨#[], #[], []⟩).heap.modify 8 fun
      | .cells _ t frozen => .cells #[.int .i64 (0), .int .i64 (1), .int .i64 (1), .int .i64 (0), .int .i64 (0), .int .i64 (-1), .int .i64 (-1), .int .i64 (0), .int .i64 (1), .int .i64 (1), .int .i64 (1), .int .i64 (-1), .int .i64 (-1), .int .i64 (-1), .int .i64 (-1), .int .i64 (1), .int .i64 (1), .int .i64 (2), .int .i64 (2), .int .i64 (1), .int .i64 (2), .int .i64 (-1), .int .i64 (1), .int .i64 (-2), .int .i64 (-1), .int .i64 (-2), .int .i64 (-2), .int .i64 (-1), .int .i64 (-2), .int .i64 (1), .int .i64 (-1), .int .i64 (2)] t frozen
      | o => o).modify 2 fun
      | .cells _ t frozen => .cells #[.int .i64 (1), .int .i64 (0), .int .i64 (4), .int .i64 (7), .int .i64 (2), .int .i64 (0), .int .i64 (4), .int .i64 (0), .int .i64 (4), .int .i64 (1), .int .i64 (60), .int .i64 (63), .int .i64 (8), .int .i64 (1), .int .i64 (60), .int .i64 (56)] t frozen
      | o => o).modify 5 fun
      | .cells _ t frozen => .cells #[.int .i64 (5), .int .i64 (1), .int .i64 (2), .int .i64 (-1)] t frozen
      | o => o).modify 3 fun
      | .cells _ t frozen => .cells #[.int .i64 (0), .int .i64 (2), .int .i64 (3), .int .i64 (4), .int .i64 (5)] t frozen
      | o => o).modify 0 fun
      | .cells _ t frozen => .cells #[.int .i64 (7), .int .i64 (0)] t frozen
      | o => o).modify 1 fun
      | .cells _ t frozen => .cells #[.int .i64 (1), .int .i64 (4), .int .i64 (7), .int .i64 (6), .int .i64 (2), .int .i64 (4), .int .i64 (0), .int .i64 (2), .int .i64 (4), .int .i64 (60), .int .i64 (63), .int .i64 (62), .int .i64 (8), .int .i64 (60), .int .i64 (56), .int .i64 (58)] t frozen
      | o => o).modify 7 fun
      | .cells _ t frozen => .cells #[.int .i64 (5), .int .i64 (4), .int .i64 (3), .int .i64 (2)] t frozen
      | o => o).modify 6 fun
      | .cells _ t frozen => .cells #[.int .i64 (1), .int .i64 (1), .int .i64 (7), .int .i64 (-1), .int .i64 (6), .int .i64 (0)] t frozen
      | o => o).modify 4 fun
      | .cells _ t frozen => .cells #[.int .i64 (-2), .int .i64 (2)] t frozen
      | o => o) }
theorem laid_met (os : Os) : laidMet Tryz.prog Rows.keyMovesRow.laid ((laidWorld os).forCall (fun _ _ => 0) ⟨#[], #[.agg (pl Zp).toArray], []⟩).memory :=
  laidMet_of_run' 8 (by kernel_rfl) (by kernel_rfl)
theorem reads (os : Os) {H : Type} (enc : TypeId × Value → H) : ∃ places, DataW.whole enc Tryz.prog ((laidWorld os).forCall (fun _ _ => 0) ⟨#[], #[.agg (pl Zp).toArray], []⟩).memory Tryz.f3.params.toList Rows.keyMovesSpec.vars false (#[.agg (pl Zp).toArray] : Array Value).toList 8 = some ([dP H Zp], [], places) :=
  ⟨[], by kernel_rfl⟩

set_option maxRecDepth 100000 in
theorem lifted (os : Os) (started : os.Started) (H : Type) (enc : TypeId × Value → H) (F : Stop.Interp) :
    ReturnsInHanded {} Tryz.checked os 3 .any ((OpenSpec.ofChange Rows.keyMovesSpec).preRow enc Tryz.prog Tryz.f3 Rows.keyMovesRow.domain false Rows.keyMovesRow.laid) (((OpenSpec.ofChange Rows.keyMovesSpec).at F).post enc Tryz.prog Tryz.f3 false true false false) := by
  obtain ⟨places, hx⟩ := reads os enc
  refine returnsInHanded_of_row (C := Tryz.checked) (s := OpenSpec.ofChange Rows.keyMovesSpec) own started (by kernel_rfl) Tryz.func3
    (witness_row_at (enc := enc) (C := Tryz.checked) false (laidWorld os) #[.agg (pl Zp).toArray] rfl (by kernel_rfl) (by kernel_rfl) (by kernel_rfl)
      (OpenSpec.preRow_of_cond 8 hx (by kernel_rfl) (fun k hk => by cases hk) (by kernel_rfl) (laid_met os))) ?_
  intro W base args ds gs before hval hW _ _ _ hL _ _
  exact contract H enc W base args ds gs before hval hW hL

theorem said : Rows.KeyMovesSaid :=
  OpenClaim.holds_of_cond 3 Tryz.f3 rfl rfl rfl rfl rfl rfl rfl ⟨rfl, rfl, rfl, rfl, rfl⟩ rfl rfl rfl rfl rfl (by kernel_rfl) Tryz.func3 (by kernel_rfl)
    (of_decide_eq_true (by kernel_rfl)) (by unfold Func.isWrapper; first | (rw [if_pos (by decide +kernel)]; kernel_rfl) | (rw [if_neg (by decide +kernel)]; exact ⟨rfl, rfl⟩))
    (fun os started H enc _ F => by rw [OpenClaim.pre_eq_preRow]; exact lifted os started H enc F)

theorem plain (f : FuncId) (fn : Func) (hf : Tryz.pinned.checked.prog.funcNamed "alfil/alfillaw17.KeyMoves" = some f) (hfn : Tryz.pinned.checked.prog.funcs[f]? = some fn) :
    false = Tryz.pinned.checked.prog.looks [] ∧ ∀ (j : Nat) t, fn.params[j]? = some t → Tryz.pinned.checked.prog.wantsStandIn t = false := by
  obtain rfl : f = 3 := Option.some.inj ((show Tryz.prog.funcNamed "alfil/alfillaw17.KeyMoves" = some 3 by kernel_rfl).symm.trans hf) |>.symm
  obtain rfl : fn = Tryz.f3 := (Option.some.inj (Tryz.func3.symm.trans hfn)).symm
  refine ⟨by kernel_rfl, fun j t ht => ?_⟩
  rw [Tryz.params3] at ht
  have ht2 := Array.mem_of_getElem? ht
  simp only [List.mem_toArray, List.mem_cons, List.not_mem_nil, or_false] at ht2
  have hd : t = 26 := by first | exact ht2 | simpa using ht2
  rcases hd with rfl
  · exact (show Tryz.prog.wantsStandIn 26 = false by kernel_rfl)

/-- The card. -/
theorem card : Rows.KeyMovesCardSaid :=
  Claim7.holds_tied_plain_at .later [] _ _ _ _ said (fun _ h => by cases h) (by kernel_rfl) (fun _ h => by cases h) keyMoves_row_tie rfl ⟨rfl, rfl⟩ (by kernel_rfl) rfl plain (by kernel_rfl)
#print axioms card
end Go.Proofs.YtkebpchhpidogaaGreatDoor.keyMoves
