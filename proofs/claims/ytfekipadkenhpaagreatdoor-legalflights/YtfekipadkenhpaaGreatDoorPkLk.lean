/- LeK: my texts, in their order. -/
import Derived.Test.YtfekipadkenhpaaGreatDoorPkF
import Derived.Test.YtfekipadkenhpaaGreatDoorPkLh
import Derived.Test.YtfekipadkenhpaaGreatDoorPkLw
import Derived.Test.YtfekipadkenhpaaGreatDoorPkM
import Derived.Test.YtfekipadkenhpaaGreatDoorPkR
namespace Go.Proofs.YtfekipadkenhpaaGreatDoor
open Go.RowKit
set_option linter.unusedVariables false
set_option linter.unusedSimpArgs false
set_option maxRecDepth 100000
theorem legR_first : (legR Fp).length = 20 := by unfold legR; rw [if_pos Fp_ok]; exact leg_first.1
set_option maxHeartbeats 2000000 in
theorem legal_wake (w : World) (hT : TabG w) : Calls Tryz.prog 9 #[] w fun e w' => e = .returned (.bool true) ∧ Kept w w' := by
 have HT := Lib.hid hT
 have HMv := Lib.hid (fun r g a b w hT hR => moves_is r g a b Fp Fp_brd w hT hR)
 have HMt := Lib.hid (fun r g a b w hT hR => mate_is r g a b Fp Fp_brd w hT hR)
 have hl := legR_first
 rw [leg_first.2, Bool.false_and] at HMt
 generalize legR Fp = L at *
 clear hT
 go_enter Tryz.func9, Tryz.ntmps9
 go_wp2_with fail
 refine (rnew_is _).mono ?_
 rintro e w1 ⟨r, g, a, b, rfl, hR, k1⟩
 have HK1 := Lib.hid k1
 have HR1 := Lib.hid hR
 clear hR k1
 go_wp2_with fail
 refine (pfirst_is _).mono ?_
 rintro e w2 ⟨rfl, k2⟩
 have HK2 := Lib.hid (HK1.out.trans k2)
 have HR2 := Lib.hid (HR1.out.kept k2)
 clear k2
 go_wp2_with fail
 refine (HMv.out r g a b _ (HT.out.kept HK2.out) HR2.out).mono ?_
 rintro e w3 ⟨v, gl, rfl, hls, k3⟩
 obtain ⟨av, cv, rfl⟩ := hls.slice
 rw [hl]
 have HK3 := Lib.hid (HK2.out.trans k3)
 have HR3 := Lib.hid (HR2.out.kept k3)
 clear k3 hls hl
 go_wp2_with fail
 refine (pfirst_is _).mono ?_
 rintro e w4 ⟨rfl, k4⟩
 have HK4 := Lib.hid (HK3.out.trans k4)
 have HR4 := Lib.hid (HR3.out.kept k4)
 clear k4
 go_wp2_with fail
 refine (HMt.out r g a b _ (HT.out.kept HK4.out) HR4.out).mono ?_
 rintro e w5 ⟨rfl, k5⟩
 have HK5 := Lib.hid (HK4.out.trans k5)
 clear k5
 go_wp2
 go_ret
 exact ⟨rfl, HK5.out⟩
end Go.Proofs.YtfekipadkenhpaaGreatDoor
