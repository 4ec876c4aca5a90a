/- GeH: my texts, in their order. -/
import Derived.Test.YtfekipadkenhpaaGreatDoorPkA
import Derived.Test.YtfekipadkenhpaaGreatDoorPkB
import Derived.Test.YtfekipadkenhpaaGreatDoorPkC
import Derived.Test.YtfekipadkenhpaaGreatDoorPkD
import Derived.Test.YtfekipadkenhpaaGreatDoorPkE
import Derived.Test.YtfekipadkenhpaaGreatDoorPkF
import Derived.Test.YtfekipadkenhpaaGreatDoorPkGa
import Derived.Test.YtfekipadkenhpaaGreatDoorPkGb
import Derived.Test.YtfekipadkenhpaaGreatDoorPkGc
import Derived.Test.YtfekipadkenhpaaGreatDoorPkGd
import Derived.Test.YtfekipadkenhpaaGreatDoorPkGe
import Derived.Test.YtfekipadkenhpaaGreatDoorPkH
import Derived.Test.YtfekipadkenhpaaGreatDoorPkI
import Derived.Test.YtfekipadkenhpaaGreatDoorPkJ
import Derived.Test.YtfekipadkenhpaaGreatDoorPkK
import Derived.Test.YtfekipadkenhpaaGreatDoorPkL
import Derived.Test.YtfekipadkenhpaaGreatDoorPkM
namespace Go.Proofs.YtfekipadkenhpaaGreatDoor
open Go.RowKit
set_option linter.unusedVariables false
set_option linter.unusedSimpArgs false
set_option maxRecDepth 100000
def fromR (p : Ps) (s : Int) : List Mv := if pwI p = 0 then fromI p s else []
theorem fromg_in (g : Nat) (a : Addr) (p : Ps) (hB : Brd p.B) (hr : pwI p = 0) (s : Int) (w : World) (hT : TabG w) (hE : EyeAt w g a) :
  Calls Tryz.prog 57 #[.pointer (some ⟨g, 0, none⟩), .agg (pl p).toArray, .int .i64 s] w (NewM w (fromI p s)) := by
 have HP := Lib.hid (PAt.new w hB.1)
 have HK0 := Lib.hid ((Kept.refl w).alloc (.cells (pl p).toArray 26))
 have HT := Lib.hid (hT.kept HK0.out)
 have HE := Lib.hid (hE.kept HK0.out)
 have HTl : Hid (∀ w, TabG w → Calls Tryz.prog 65 #[.pointer (some ⟨g, 0, none⟩), .agg (pl p).toArray] w fun e w' => e = .returned (.bool true) ∧ Kept w w') := fun w hT => by
  have := tells_is ⟨g, 0, none⟩ p hB w hT; rw [hr] at this; exact this
 have HF := Lib.hid (fun w hT hE => from_is g a p hB hr s w hT hE)
 generalize fromI p s = R at *
 clear hB hr hT hE
 go_enter Tryz.func57, Tryz.ntmps57
 go_wp2_with (first | (refine wpList_load_ps (by rfl) _ rfl _ rfl _ (HP.out) ?_) | (refine wpList_load_pb (by rfl) _ rfl _ rfl _ (HP.out) ?_))
 refine (HTl.out _ HT.out).mono ?_
 rintro e X ⟨rfl, kX⟩
 have HKX := Lib.hid kX
 have HP1 := Lib.hid (HP.out.kept kX)
 have HT1 := Lib.hid (HT.out.kept kX)
 have HE1 := Lib.hid (HE.out.kept kX)
 clear kX
 go_wp2_with (first | (refine wpList_load_ps (by rfl) _ rfl _ rfl _ (HP1.out) ?_) | (refine wpList_load_pb (by rfl) _ rfl _ rfl _ (HP1.out) ?_))
 refine (HF.out _ HT1.out HE1.out).mono ?_
 rintro e w2 ⟨v2, rfl, hO2, k2⟩
 obtain ⟨a2, c2, rfl⟩ := hO2.slice
 have HK2 := Lib.hid (HKX.out.trans k2)
 have HO2 := Lib.hid hO2
 clear hO2 k2
 generalize R.length = r at *
 go_wp2
 go_ret
 exact ⟨_, rfl, HO2.out.low (HK0.out.trans HKX.out).size, HK0.out.trans HK2.out⟩
theorem fromg_wrong (g : Addr) (p : Ps) (hB : Brd p.B) (hr : pwI p ≠ 0) (s : Int) (w : World) (hT : TabG w) :
  Calls Tryz.prog 57 #[.pointer (some g), .agg (pl p).toArray, .int .i64 s] w (NewM w []) := by
 have HP := Lib.hid (PAt.new w hB.1)
 have HK0 := Lib.hid ((Kept.refl w).alloc (.cells (pl p).toArray 26))
 have HT := Lib.hid (hT.kept HK0.out)
 have HTl : Hid (∀ w, TabG w → Calls Tryz.prog 65 #[.pointer (some g), .agg (pl p).toArray] w fun e w' => e = .returned (.bool false) ∧ Kept w w') := fun w hT => by
  have := tells_is g p hB w hT; rw [show (pwI p == 0) = false from beq_eq_false_iff_ne.2 hr] at this; exact this
 clear hB hr hT
 go_enter Tryz.func57, Tryz.ntmps57
 go_wp2_with (first | (refine wpList_load_ps (by rfl) _ rfl _ rfl _ (HP.out) ?_) | (refine wpList_load_pb (by rfl) _ rfl _ rfl _ (HP.out) ?_))
 refine (HTl.out _ HT.out).mono ?_
 rintro e X ⟨rfl, kX⟩
 have HKX := Lib.hid kX
 clear kX
 go_wp2
 go_ret
 exact ⟨_, rfl, OwnM.nil _ _, HK0.out.trans HKX.out⟩
theorem fromg_is (g : Nat) (a : Addr) (p : Ps) (hB : Brd p.B) (s : Int) (w : World) (hT : TabG w) (hE : EyeAt w g a) :
  Calls Tryz.prog 57 #[.pointer (some ⟨g, 0, none⟩), .agg (pl p).toArray, .int .i64 s] w (NewM w (fromR p s)) := by
 unfold fromR
 by_cases h : pwI p = 0
 ·rw [if_pos h]; exact fromg_in g a p hB h s w hT hE
 ·rw [if_neg h]; exact fromg_wrong _ p hB h s w hT
end Go.Proofs.YtfekipadkenhpaaGreatDoor
