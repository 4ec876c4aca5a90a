/- LeL · LeH: my texts, in their order. -/
import Derived.Test.YtfekipadkenhpaaGreatDoorPkA
import Derived.Test.YtfekipadkenhpaaGreatDoorPkB
import Derived.Test.YtfekipadkenhpaaGreatDoorPkC
import Derived.Test.YtfekipadkenhpaaGreatDoorPkD
import Derived.Test.YtfekipadkenhpaaGreatDoorPkE
import Derived.Test.YtfekipadkenhpaaGreatDoorPkF
import Derived.Test.YtfekipadkenhpaaGreatDoorPkGa
import Derived.Test.YtfekipadkenhpaaGreatDoorPkGb
import Derived.Test.YtfekipadkenhpaaGreatDoorPkGc
import Derived.Test.YtfekipadkenhpaaGreatDoorPkGd
import Derived.Test.YtfekipadkenhpaaGreatDoorPkGe
import Derived.Test.YtfekipadkenhpaaGreatDoorPkGh
import Derived.Test.YtfekipadkenhpaaGreatDoorPkH
import Derived.Test.YtfekipadkenhpaaGreatDoorPkI
import Derived.Test.YtfekipadkenhpaaGreatDoorPkJ
import Derived.Test.YtfekipadkenhpaaGreatDoorPkK
import Derived.Test.YtfekipadkenhpaaGreatDoorPkL
import Derived.Test.YtfekipadkenhpaaGreatDoorPkLa
import Derived.Test.YtfekipadkenhpaaGreatDoorPkLd
import Derived.Test.YtfekipadkenhpaaGreatDoorPkLe
import Derived.Test.YtfekipadkenhpaaGreatDoorPkLf
import Derived.Test.YtfekipadkenhpaaGreatDoorPkLg
import Derived.Test.YtfekipadkenhpaaGreatDoorPkLh
import Derived.Test.YtfekipadkenhpaaGreatDoorPkM
import Derived.Test.YtfekipadkenhpaaGreatDoorPkR
namespace Go.Proofs.YtfekipadkenhpaaGreatDoor
open Go.RowKit
set_option linter.unusedVariables false
set_option linter.unusedSimpArgs false
set_option maxRecDepth 100000
/-- Mate, stalemate: the document's words. -/
theorem stuck_len (p : Ps) (hr : pwI p = 0) : stuckB p = ((legL p).length == 0) := by
 unfold stuckB
 rw [hr]
 cases legL p <;> rfl
theorem stale_is (r g : Nat) (a b : Addr) (p : Ps) (hB : Brd p.B) (w : World) (hT : TabG w) (hR : RuAt w r g a b) :
  Calls Tryz.prog 16 #[.pointer (some ⟨r, 0, none⟩), .agg (pl p).toArray] w fun e w' => e = .returned (.bool (!checkB p.B p.t && stuckB p)) ∧ Kept w w' := by
 have HP := Lib.hid (PAt.new w hB.1)
 have HK0 := Lib.hid ((Kept.refl w).alloc (.cells (pl p).toArray 26))
 have HT := Lib.hid (hT.kept HK0.out)
 have HR := Lib.hid (hR.kept HK0.out)
 have HC := Lib.hid (fun w hS hR => rchk_is r g a b p hB w hS hR)
 have HS := Lib.hid (fun w hT hR => stuck_is r g a b p hB w hT hR)
 generalize stuckB p = sb at *
 clear hB hT hR
 cases hc : checkB p.B p.t
 ·rw [hc] at HC
  clear hc
  go_enter Tryz.func16, Tryz.ntmps16
  go_wp2_with (first | (refine wpList_load_ps (by rfl) _ rfl _ rfl _ (HP.out) ?_) | (refine wpList_load_pb (by rfl) _ rfl _ rfl _ (HP.out) ?_))
  refine (HC.out _ HT.out.tabm.tabs.steps HR.out).mono ?_
  rintro e w1 ⟨rfl, k1⟩
  have HK1 := Lib.hid (HK0.out.trans k1)
  have HP1 := Lib.hid (HP.out.kept k1)
  have HT1 := Lib.hid (HT.out.kept k1)
  have HR1 := Lib.hid (HR.out.kept k1)
  clear k1
  go_wp2_with (first | (refine wpList_load_ps (by rfl) _ rfl _ rfl _ (HP1.out) ?_) | (refine wpList_load_pb (by rfl) _ rfl _ rfl _ (HP1.out) ?_))
  refine (HS.out _ HT1.out HR1.out).mono ?_
  rintro e w2 ⟨rfl, k2⟩
  have HK2 := Lib.hid (HK1.out.trans k2)
  clear k2
  go_wp2
  go_ret
  exact ⟨by rw [Bool.not_false, Bool.true_and]; rfl, HK2.out⟩
 ·rw [hc] at HC
  clear hc HS
  go_enter Tryz.func16, Tryz.ntmps16
  go_wp2_with (first | (refine wpList_load_ps (by rfl) _ rfl _ rfl _ (HP.out) ?_) | (refine wpList_load_pb (by rfl) _ rfl _ rfl _ (HP.out) ?_))
  refine (HC.out _ HT.out.tabm.tabs.steps HR.out).mono ?_
  rintro e w1 ⟨rfl, k1⟩
  have HK1 := Lib.hid (HK0.out.trans k1)
  clear k1
  go_wp2
  go_ret
  exact ⟨rfl, HK1.out⟩
end Go.Proofs.YtfekipadkenhpaaGreatDoor
