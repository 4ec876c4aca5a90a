/-
  DERIVED. GIVEN WITH THE SEED: THE PROGRAM's TIES (one call each: nine closed facts by the kernel) AND EACH ROW's TIE, after the 31st guide's Derived/Test/Toyas{Tie, Card}.lean. No idea stands in it: it is a product of the set-up. Laid BY PROGRAM, IN A SANDBOX (cutbox-door.mjs). By AI agents, Wed Nov 11 2026. No macro, syntax, notation, axiom, sorry.
-/
import Derived.Test.YtfekipadkenhpaaGreatDoorRows
import Derived.LaidByTextLater
import Derived.SevenTiedAt
import Derived.LaidSub
import Derived.LaidOnce
namespace Go.Proofs.YtfekipadkenhpaaGreatDoor
open Go
set_option maxRecDepth 100000
theorem seatTie1 : Tryz.prog.laidByTextLater [("alfil/ways.steps", Rows.laid_alfil_ways_steps), ("alfil/pos.homes", Rows.laid_alfil_pos_homes), ("alfil/pos.views", Rows.laid_alfil_pos_views), ("alfil/move.promos", Rows.laid_alfil_move_promos), ("alfil/move.lastRanks", Rows.laid_alfil_move_lastRanks), ("alfil/move.wings", Rows.laid_alfil_move_wings), ("alfil/gen.promos", Rows.laid_alfil_gen_promos), ("alfil/gen.marches", Rows.laid_alfil_gen_marches), ("alfil/gen.sideways", Rows.laid_alfil_gen_sideways)] [.data, .data, .data, .data, .data, .data, .data, .data, .data] true :=
  Program.laidByTextLater_by_one 82 8 33 (by kernel_rfl) (by kernel_rfl) (by kernel_rfl) (by kernel_rfl) (by kernel_rfl) (by kernel_rfl) (fun _ _ => by kernel_rfl)
theorem noOwnUnsafe : Tryz.pinned.checked.prog.headLifts.contains "ownunsafe" = false := by kernel_rfl
theorem tie : Tryz.prog.laidByTextLater [("alfil/ways.steps", Rows.laid_alfil_ways_steps), ("alfil/pos.homes", Rows.laid_alfil_pos_homes), ("alfil/pos.views", Rows.laid_alfil_pos_views), ("alfil/move.promos", Rows.laid_alfil_move_promos), ("alfil/move.lastRanks", Rows.laid_alfil_move_lastRanks), ("alfil/move.wings", Rows.laid_alfil_move_wings), ("alfil/gen.promos", Rows.laid_alfil_gen_promos), ("alfil/gen.marches", Rows.laid_alfil_gen_marches), ("alfil/gen.sideways", Rows.laid_alfil_gen_sideways)] [.data, .data, .data, .data, .data, .data, .data, .data, .data] true :=
  Program.laidByTextLater.sub seatTie1 ["alfil/ways.steps", "alfil/pos.homes", "alfil/pos.views", "alfil/move.promos", "alfil/move.lastRanks", "alfil/move.wings", "alfil/gen.promos", "alfil/gen.marches", "alfil/gen.sideways"] (by kernel_rfl) (by kernel_rfl)
theorem legalMoves_row_tie : Rows.legalMovesRow.laidByTextAt .later Tryz.pinned [.data, .data, .data, .data, .data, .data, .data, .data, .data] true :=
  OpenClaim.laidByTextAt_later rfl rfl tie noOwnUnsafe
theorem legalPlays_row_tie : Rows.legalPlaysRow.laidByTextAt .later Tryz.pinned [.data, .data, .data, .data, .data, .data, .data, .data, .data] true :=
  OpenClaim.laidByTextAt_later rfl rfl tie noOwnUnsafe
theorem legalRight_row_tie : Rows.legalRightRow.laidByTextAt .later Tryz.pinned [.data, .data, .data, .data, .data, .data, .data, .data, .data] true :=
  OpenClaim.laidByTextAt_later rfl rfl tie noOwnUnsafe
theorem legalFlights_row_tie : Rows.legalFlightsRow.laidByTextAt .later Tryz.pinned [.data, .data, .data, .data, .data, .data, .data, .data, .data] true :=
  OpenClaim.laidByTextAt_later rfl rfl tie noOwnUnsafe
theorem legalTurned_row_tie : Rows.legalTurnedRow.laidByTextAt .later Tryz.pinned [.data, .data, .data, .data, .data, .data, .data, .data, .data] true :=
  OpenClaim.laidByTextAt_later rfl rfl tie noOwnUnsafe
theorem legalNil_row_tie : Rows.legalNilRow.laidByTextAt .later Tryz.pinned [.data, .data, .data, .data, .data, .data, .data, .data, .data] true :=
  OpenClaim.laidByTextAt_later rfl rfl tie noOwnUnsafe
theorem legalMovesUpto_row_tie : Rows.legalMovesUptoRow.laidByTextAt .later Tryz.pinned [.data, .data, .data, .data, .data, .data, .data, .data, .data] true :=
  OpenClaim.laidByTextAt_later rfl rfl tie noOwnUnsafe
theorem legalPlaysUpto_row_tie : Rows.legalPlaysUptoRow.laidByTextAt .later Tryz.pinned [.data, .data, .data, .data, .data, .data, .data, .data, .data] true :=
  OpenClaim.laidByTextAt_later rfl rfl tie noOwnUnsafe
theorem legalRightUpto_row_tie : Rows.legalRightUptoRow.laidByTextAt .later Tryz.pinned [.data, .data, .data, .data, .data, .data, .data, .data, .data] true :=
  OpenClaim.laidByTextAt_later rfl rfl tie noOwnUnsafe
theorem legalFlightsUpto_row_tie : Rows.legalFlightsUptoRow.laidByTextAt .later Tryz.pinned [.data, .data, .data, .data, .data, .data, .data, .data, .data] true :=
  OpenClaim.laidByTextAt_later rfl rfl tie noOwnUnsafe
theorem legalTurnedUpto_row_tie : Rows.legalTurnedUptoRow.laidByTextAt .later Tryz.pinned [.data, .data, .data, .data, .data, .data, .data, .data, .data] true :=
  OpenClaim.laidByTextAt_later rfl rfl tie noOwnUnsafe
theorem legalNilUpto_row_tie : Rows.legalNilUptoRow.laidByTextAt .later Tryz.pinned [.data, .data, .data, .data, .data, .data, .data, .data, .data] true :=
  OpenClaim.laidByTextAt_later rfl rfl tie noOwnUnsafe
end Go.Proofs.YtfekipadkenhpaaGreatDoor
