/- PaK: my texts, in their order. -/
import Derived.Test.YtijkemnhehbchaaGreatDoorPkLf
import Derived.Test.YtijkemnhehbchaaGreatDoorPkRb
import Derived.Test.YtijkemnhehbchaaGreatDoorPkRh
namespace Go.Proofs.YtijkemnhehbchaaGreatDoor
open Go.RowKit
set_option linter.unusedVariables false
set_option linter.unusedSimpArgs false
set_option maxRecDepth 100000
theorem count_f1 (w:World) (hT:TabG w):Calls Tryz.prog 16 #[.agg (pl Fp).toArray,.int .i64 1,.int .i64 1] w fun e w'=>e=.returned (.tuple #[.int .i64 20,.int .i64 0])∧Kept w w':=by
 have h:=count_ok Fp Fp_brd Fp_ok 1 1 (by omega) (by rw [short_1];exact Nat.le_refl _) (by omega) (by rw [up_len,short_1,full_1];omega) w hT
 rw [full_1] at h
 exact h
theorem count_f2 (w:World) (hT:TabG w):Calls Tryz.prog 16 #[.agg (pl Fp).toArray,.int .i64 2,.int .i64 21] w fun e w'=>e=.returned (.tuple #[.int .i64 400,.int .i64 0])∧Kept w w':=by
 have h:=count_ok Fp Fp_brd Fp_ok 2 21 (by omega) (by rw [short_2];exact Nat.le_refl _) (by omega) (by rw [up_len,short_2,full_2];omega) w hT
 rw [full_2] at h
 exact h
set_option maxHeartbeats 2000000 in
theorem paths_wake (w:World) (hT:TabG w):Calls Tryz.prog 6 #[] w fun e w'=>e=.returned (.bool true)∧Kept w w':=by
 have HT:=Qh hT
 clear hT
 go_enter Tryz.func6,Tryz.ntmps6
 go_wp2_with fail
 refine (pfirst_is _).mono ?_
 rintro e w1 ⟨rfl,k1⟩
 have HK1:=Qh k1
 clear k1
 go_wp2_with fail
 refine (count_f1 _ (HT.out.kept HK1.out)).mono ?_
 rintro e w2 ⟨rfl,k2⟩
 have HK2:=Qh (HK1.out.trans k2)
 clear k2
 go_wp2_with fail
 refine (pfirst_is _).mono ?_
 rintro e w3 ⟨rfl,k3⟩
 have HK3:=Qh (HK2.out.trans k3)
 clear k3
 go_wp2_with fail
 refine (count_f2 _ (HT.out.kept HK3.out)).mono ?_
 rintro e w4 ⟨rfl,k4⟩
 have HK4:=Qh (HK3.out.trans k4)
 clear k4
 go_wp2
 go_ret
 exact ⟨rfl,HK4.out⟩
end Go.Proofs.YtijkemnhehbchaaGreatDoor
