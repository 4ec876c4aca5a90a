/- The walk of ForsythReads. -/
import Derived.Test.YtkfjpecehighlaaFoI
import Derived.Test.YtkfjpecehighlaaFoH
namespace Go.Proofs.Ytkfjpecehighlaa
open Go.RowKit
set_option linter.unusedVariables false
set_option linter.unusedSimpArgs false

theorem walkForsythReads (t : ByteArray) (wt : t.size ≤ maxLen) (w : World) :
    Calls Try.prog 3 #[.string t] w fun e w' => e = .returned (.bool true) ∧ Kept w w' := by
  unfold maxLen at wt
  by_cases hl : 200 < (t.size : Int)
  · go_enter Try.func3, Try.ntmps3
    go_wp2_with fail
    refine (fwakes _).mono ?_
    rintro e w1 ⟨rfl, g1⟩
    go_wp2
    go_ret
    exact ⟨rfl, g1⟩
  · go_enter Try.func3, Try.ntmps3
    go_wp2_with fail
    refine (fwakes _).mono ?_
    rintro e w1 ⟨rfl, g1⟩
    go_wp2_with fail
    refine (read_is t (by omega) _).mono ?_
    rintro e w2 ⟨B, n, x, rfl, hr, g2⟩
    have HR := Lib.hid hr
    have hB := Lib.hid hr.brd.1
    have hz := Lib.hid (size_cl hr.brd.1)
    have hnl := hr.le
    rw [len_size] at hnl
    clear hr
    go_wp2_with (first | (with_reducible refine wpList_new_b rfl rfl ?_) | ((with_reducible refine wpList_store_new rfl _ _ rfl Zb B Zb_len hB.out ?_ ?_ ?_); exact rfl; exact rfl))
    refine (rread_is t (by omega) _).mono ?_
    rintro e w3 ⟨B', n', x', rfl, hr', g3⟩
    obtain ⟨rfl, rfl, rfl⟩ := HR.out.uniq hr'
    have HK := Lib.hid ((((g1.trans g2).alloc (.cells (cl B).toArray 25)).trans g3).alloc (.cells (cl B).toArray 25))
    have hb1 := Lib.hid (((Kept.refl w3).alloc (.cells (cl B).toArray 25)).heap (g3.heap (heap_alloc_new w2 (.cells (cl B).toArray 25))))
    have hb2 := Lib.hid (heap_alloc_new w3 (.cells (cl B).toArray 25))
    clear hr' g1 g2 g3
    go_wp2_with (first | (with_reducible refine wpList_new_b rfl rfl ?_) | ((with_reducible refine wpList_store_new rfl _ _ rfl Zb B Zb_len hB.out ?_ ?_ ?_); exact rfl; exact rfl) | (refine wpList_load_w (by rfl) _ rfl w2.heap.size rfl B hb1.out hz.out ?_) | (refine wpList_load_w (by rfl) _ rfl w3.heap.size rfl B hb2.out hz.out ?_) | (refine wpList_eql_w (by rfl) _ _ _ rfl B B rfl rfl ⟨hB.out, hB.out, beqB_refl _⟩ ?_))
    go_ret
    refine ⟨?_, HK.out⟩
    simp
end Go.Proofs.Ytkfjpecehighlaa
