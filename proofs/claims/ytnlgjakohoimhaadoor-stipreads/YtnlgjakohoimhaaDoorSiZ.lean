/- The law StipReads walked. -/
import Derived.Test.YtnlgjakohoimhaaDoorSiR
namespace Go.Proofs.YtnlgjakohoimhaaDoor
open Go.RowKit
set_option linter.unusedVariables false
set_option linter.unusedSimpArgs false
set_option maxRecDepth 100000
set_option maxHeartbeats 4000000

theorem GAt.rangeQ {w : World} {g : Nat} {q : Stp} {y : Sp} (h : GAt w g q y) : w.rangeAt g 0 (ql q) := by
  intro j v hv
  rw [Nat.zero_add, cell_of_row _ _ j _ _ (0, 0) h.at_]
  have hj : j < 4 := (List.getElem?_eq_some_iff.1 hv).1
  have : j = 0 ∨ j = 1 ∨ j = 2 ∨ j = 3 := by omega
  rcases this with rfl | rfl | rfl | rfl <;> exact hv
theorem GAt.rangeS {w : World} {g : Nat} {q : Stp} {y : Sp} (h : GAt w g q y) : w.rangeAt g 4 (sl y) := by
  intro j v hv
  rw [cell_of_row _ _ (4 + j) _ _ (0, 0) h.at_]
  have hj : j < 3 := (List.getElem?_eq_some_iff.1 hv).1
  have : j = 0 ∨ j = 1 ∨ j = 2 := by omega
  rcases this with rfl | rfl | rfl <;> exact hv
theorem rread_is (t : ByteArray) (i : Int) (ht : t.size ≤ 1000) (w : World) :
    Calls Tryd.prog 9 #[.string t, .int .i64 i] w fun e w' => e = .returned (gv (refP t i).1 (refP t i).2) ∧ Kept w w' := by
  by_cases hi : inB t i = true
  · obtain ⟨A, rfl, hA⟩ := inB_yes hi
    unfold refP
    rw [if_pos hi]
    exact rread_yes t A hA ht w
  · unfold refP
    rw [if_neg hi]
    exact rread_no t i (by simpa using hi) w
theorem walkStipReads (t : ByteArray) (w0 : t.size ≤ maxLen) (i : Int) (wi : (Lit.int .i64 i).wf = true) (w : World) (hT : TabS w) :
    Calls Tryd.prog 3 #[.string t, .int .i64 i] w fun e w' => e = .returned (.bool true) ∧ Kept w w' := by
  have HWk := Lib.hid (fun w h => stip_wakes w h)
  have HT := Lib.hid hT
  clear hT
  unfold maxLen at w0
  by_cases hl : 60 < t.size
  · have hl' : (60 : Int) < t.size := by omega
    go_enter Tryd.func3, Tryd.ntmps3
    go_wp2_with fail
    refine (HWk.out _ HT.out).mono ?_
    rintro e w1 ⟨rfl, k1⟩
    have HK1 := Lib.hid k1
    clear k1
    go_wp2
    go_ret
    exact ⟨rfl, HK1.out⟩
  · have hl' : ¬ (60 : Int) < t.size := by omega
    have HRd := Lib.hid (fun w h => read_is t i (by omega) w h)
    have HRr := Lib.hid (fun w => rread_is t i (by omega) w)
    rw [← read_eq] at HRr
    rcases hr : rdP t i with ⟨q, y⟩
    rw [hr] at HRd HRr
    dsimp only at HRd HRr
    clear hr
    go_enter Tryd.func3, Tryd.ntmps3
    go_wp2_with fail
    refine (HWk.out _ HT.out).mono ?_
    rintro e w1 ⟨rfl, k1⟩
    have HT1 := Lib.hid (HT.out.kept k1)
    have HK1 := Lib.hid k1
    clear k1
    go_wp2_with fail
    refine (HRd.out _ HT1.out).mono ?_
    rintro e w3 ⟨rfl, k3⟩
    obtain ⟨hx, hy, hk⟩ := boxes_2 w3 q y
    have HQ3 := Lib.hid hx
    have HS3 := Lib.hid hy
    have HK3 := Lib.hid ((HK1.out.trans k3).trans hk)
    have HB1 := Lib.hid (boxes_q w3)
    have HB2 := Lib.hid (boxes_s w3 q)
    clear k3 hx hy hk
    go_upto_region 6 with (first | (with_reducible refine wpList_new_q rfl rfl ?_) | (with_reducible refine wpList_new_sp rfl rfl ?_) | ((with_reducible refine wpList_store_q rfl _ _ rfl w3.heap.size Zt q HB1.out ?_ ?_ ?_); exact rfl; exact rfl) | (refine wpList_store_sp rfl _ _ rfl (w3.alloc (.cells (ql Zt).toArray 24)).heap.size Zs y HB2.out rfl rfl ?_))
    generalize (((w3.alloc (.cells (ql Zt).toArray 24)).alloc (.cells (sl Zs).toArray 27)).setRow w3.heap.size (ql q).toArray).setRow (w3.alloc (.cells (ql Zt).toArray 24)).heap.size (sl y).toArray = X at *
    generalize (w3.alloc (.cells (ql Zt).toArray 24)).heap.size = g6 at *
    generalize w3.heap.size = g5 at *
    clear HB1 HB2
    try simp only [Act.put, List.setIfInBounds_toArray, List.set_cons_zero, List.set_cons_succ]
    go_wp2_with fail
    refine (HRr.out _).mono ?_
    rintro e w5 ⟨rfl, k5⟩
    have HG := Lib.hid (GAt.new w5 Zt Zs)
    have HGn := Lib.hid (HG.out.row q y)
    have hkk := ((Kept.refl w5).alloc (.cells (gl Zt Zs).toArray 31)).setRow (Nat.le_refl _) (gl q y).toArray
    have HQ5 := Lib.hid (HQ3.out.kept (k5.trans hkk))
    have HS5 := Lib.hid (HS3.out.kept (k5.trans hkk))
    have HK5 := Lib.hid (HK3.out.trans (k5.trans hkk))
    clear k5 hkk
    go_upto_region 7 with (first | (with_reducible refine wpList_new_g rfl rfl ?_) | ((with_reducible refine wpList_store_g rfl _ _ rfl w5.heap.size Zt Zs q y HG.out ?_ ?_ ?_); exact rfl; exact rfl))
    generalize (w5.alloc (.cells (gl Zt Zs).toArray 31)).setRow w5.heap.size (gl q y).toArray = Y at *
    generalize w5.heap.size = g7 at *
    clear HG
    try simp only [Act.put, List.setIfInBounds_toArray, List.set_cons_zero, List.set_cons_succ]
    go_wp2_with (first | ((with_reducible refine wpList_load_q rfl _ rfl g5 0 ?_ q HQ5.out.range ?_); exact rfl) | ((with_reducible refine wpList_load_q rfl _ rfl g7 0 ?_ q HGn.out.rangeQ ?_); exact rfl) | (refine wpList_eql_q (by rfl) _ _ _ rfl q rfl rfl ?_) | ((with_reducible refine wpList_load_sp rfl _ rfl g6 0 ?_ y HS5.out.range ?_); exact rfl) | ((with_reducible refine wpList_load_sp rfl _ rfl g7 4 ?_ y HGn.out.rangeS ?_); exact rfl) | (refine wpList_eql_sp (by rfl) _ _ _ rfl y rfl rfl ?_))
    go_ret
    exact ⟨rfl, HK5.out⟩
end Go.Proofs.YtnlgjakohoimhaaDoor
