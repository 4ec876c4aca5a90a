/- The position with which a game begins. -/
import Derived.Test.YtkebpchhpidogaaPoA
namespace Go.Proofs.Ytkebpchhpidogaa
open Go.RowKit
set_option linter.unusedVariables false
set_option linter.unusedSimpArgs false

/-- The position with which a game begins. -/
def Fp : Ps := ⟨Fb, 0, 15, -1⟩
theorem Fp_brd : Brd Fp.B := Fb_brd
theorem Fp_len : Fp.B.length = 64 := Fb_brd.1
set_option maxRecDepth 100000 in
theorem pfirst_is (w : World) : Calls Try.prog 11 #[] w (RetP w Fp) := by
  have HZ := Lib.hid (PAt.new w Zp_len)
  go_enter Try.func11, Try.ntmps11
  go_wp2_with (with_reducible refine wpList_new_p rfl rfl ?_)
  refine (first_is _).mono ?_
  rintro e w1 ⟨rfl, k1⟩
  have HZ1 := Lib.hid (HZ.out.kept k1)
  have HK := Lib.hid (((Kept.refl w).alloc _).trans k1)
  clear k1
  go_wp2_with (first
    | (refine wpList_built_p4 rfl _ _ _ _ rfl Fb 0 15 (-1) Fp_len rfl rfl rfl rfl ?_)
    | (refine wpList_store_ps rfl _ _ rfl w.heap.size Zp Fp HZ1.out Fp_len rfl rfl ?_))
  refine bodyPost_ret (v := .agg (pl Fp).toArray) ?_ rfl ⟨rfl, ?_⟩
  · exact results_p rfl _ rfl (HZ1.out.setRow Fp_len)
  · exact HK.out.setRow (Nat.le_refl _) _
end Go.Proofs.Ytkebpchhpidogaa
