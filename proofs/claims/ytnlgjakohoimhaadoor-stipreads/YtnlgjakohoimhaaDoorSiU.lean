/- The law StipWrites walked. -/
import Derived.Test.YtnlgjakohoimhaaDoorSiP
import Derived.Test.YtnlgjakohoimhaaDoorSiT
namespace Go.Proofs.YtnlgjakohoimhaaDoor
open Go.RowKit
set_option linter.unusedVariables false
set_option linter.unusedSimpArgs false
set_option maxRecDepth 100000
set_option maxHeartbeats 4000000

theorem txT_small {s : Stp} (hs : okS s = true) : (txT s).size ≤ 20 ∧ 1 ≤ (txT s).size := by
  have hv := okS_M hs
  have h1 := opT_sz s.k s.g
  have h2 := dT_size s.n.toNat (by have := hv.2.1; omega)
  rw [show ((s.n.toNat : Nat) : Int) = s.n by omega] at h2
  have h3 := (hdL_last (okS_hd hs)).2.1
  rw [txT_size, ← bs_opT, bs_len]
  rw [← bs_opT, bs_len] at h3
  have h4 : (nmL s.n s.h).length ≤ 4 := by
    unfold nmL
    rw [List.length_append, bs_len]
    have : hfT.size = 2 := rfl
    split
    · rw [bs_len, this]; omega
    · simp; omega
  omega
theorem wrT_ok {s : Stp} (h : okS s = true) : wrT s = txT s := by unfold wrT; rw [if_pos h]
theorem wrT_no {s : Stp} (h : okS s = false) : wrT s = ⟨#[]⟩ := by unfold wrT; rw [if_neg (by rw [h]; simp)]
theorem walkStipWrites (s : Stp) (w : World) (hT : TabS w) : Calls Tryd.prog 4 #[qv s] w fun e w' => e = .returned (.bool true) ∧ Kept w w' := by
  have HW := Lib.hid (TAt.new w s)
  have HK := Lib.hid ((Kept.refl w).alloc (.cells (ql s).toArray 24))
  have HWk := Lib.hid (fun w h => stip_wakes w h)
  have HWr := Lib.hid (fun w h => write_is s w h)
  have HRt := Lib.hid (rright_q s)
  have HBg := Lib.hid (begins_q s)
  have HPl := Lib.hid (plies_q s)
  have HT := Lib.hid (hT.kept HK.out)
  clear hT
  obtain ⟨b, hb⟩ : ∃ b, okS s = b := ⟨_, rfl⟩
  rw [hb] at HRt HWr
  cases b
  · rw [wrT_no hb] at HWr
    rw [begI_no hb] at HBg
    rw [plyI_no hb] at HPl
    clear hb
    obtain ⟨k, g, n, h⟩ := s
    unfold qv
    dsimp only at *
    go_enter Tryd.func4, Tryd.ntmps4
    go_wp2_with fail
    refine (HWk.out _ HT.out).mono ?_
    rintro e w1 ⟨rfl, k1⟩
    have HW1 := Lib.hid (HW.out.kept k1)
    have HT1 := Lib.hid (HT.out.kept k1)
    have HK1 := Lib.hid (HK.out.trans k1)
    clear k1
    go_wp2_with (refine wpList_load_q (by rfl) _ rfl w.heap.size 0 rfl ⟨k, g, n, h⟩ HW1.out.range ?_)
    refine (HWr.out _ HT1.out).mono ?_
    rintro e w2 ⟨rfl, k2⟩
    have HW2 := Lib.hid (HW1.out.kept k2)
    have HK2 := Lib.hid (HK1.out.trans k2)
    clear k2
    go_wp2_with (refine wpList_load_q (by rfl) _ rfl w.heap.size 0 rfl ⟨k, g, n, h⟩ HW2.out.range ?_)
    refine (HRt.out _).mono ?_
    rintro e w3 ⟨rfl, k3⟩
    have HW3 := Lib.hid (HW2.out.kept k3)
    have HK3 := Lib.hid (HK2.out.trans k3)
    clear k3
    go_wp2_with (refine wpList_load_q (by rfl) _ rfl w.heap.size 0 rfl ⟨k, g, n, h⟩ HW3.out.range ?_)
    refine (HBg.out _).mono ?_
    rintro e w4 ⟨rfl, k4⟩
    have HW4 := Lib.hid (HW3.out.kept k4)
    have HK4 := Lib.hid (HK3.out.trans k4)
    clear k4
    go_wp2_with (refine wpList_load_q (by rfl) _ rfl w.heap.size 0 rfl ⟨k, g, n, h⟩ HW4.out.range ?_)
    refine (HPl.out _).mono ?_
    rintro e w5 ⟨rfl, k5⟩
    have HK5 := Lib.hid (HK4.out.trans k5)
    clear k5
    go_wp2
    go_ret
    exact ⟨rfl, HK5.out⟩
  · rw [wrT_ok hb] at HWr
    have HTx := Lib.hid (fun w => rtext_is s hb w)
    have HRB := Lib.hid (fun w => rbegins_q s hb w)
    have HRP := Lib.hid (fun w => rplies_q s hb w)
    have hsm := txT_small hb
    have HRd := Lib.hid (fun w h => read_is (txT s ++ ⟨#[10]⟩) 0 (by rw [ByteArray.size_append]; show (txT s).size + 1 ≤ 1000; omega) w h)
    rw [rd_whole hb 10 rfl (by decide)] at HRd
    generalize txT s = T at *
    obtain ⟨z0, z1⟩ := hsm
    generalize begI s = bg at *
    generalize plyI s = py at *
    clear hb
    obtain ⟨k, g, n, h⟩ := s
    unfold qv
    dsimp only at *
    go_enter Tryd.func4, Tryd.ntmps4
    go_wp2_with fail
    refine (HWk.out _ HT.out).mono ?_
    rintro e w1 ⟨rfl, k1⟩
    have HW1 := Lib.hid (HW.out.kept k1)
    have HT1 := Lib.hid (HT.out.kept k1)
    have HK1 := Lib.hid (HK.out.trans k1)
    clear k1
    go_wp2_with (refine wpList_load_q (by rfl) _ rfl w.heap.size 0 rfl ⟨k, g, n, h⟩ HW1.out.range ?_)
    refine (HWr.out _ HT1.out).mono ?_
    rintro e w2 ⟨rfl, k2⟩
    have HW2 := Lib.hid (HW1.out.kept k2)
    have HT2 := Lib.hid (HT1.out.kept k2)
    have HK2 := Lib.hid (HK1.out.trans k2)
    clear k2
    go_wp2_with (refine wpList_load_q (by rfl) _ rfl w.heap.size 0 rfl ⟨k, g, n, h⟩ HW2.out.range ?_)
    refine (HRt.out _).mono ?_
    rintro e w3 ⟨rfl, k3⟩
    have HW3 := Lib.hid (HW2.out.kept k3)
    have HT3 := Lib.hid (HT2.out.kept k3)
    have HK3 := Lib.hid (HK2.out.trans k3)
    clear k3
    go_wp2_with fail
    refine (HRd.out _ HT3.out).mono ?_
    rintro e w4 ⟨rfl, k4⟩
    dsimp only
    obtain ⟨hx, hy, hk⟩ := boxes_2 w4 ⟨k, g, n, h⟩ ⟨(T.size : Nat), 0, 0⟩
    have HQ := Lib.hid hx
    have HS := Lib.hid hy
    have HW4 := Lib.hid ((HW3.out.kept k4).kept hk)
    have HK4 := Lib.hid ((HK3.out.trans k4).trans hk)
    have HB1 := Lib.hid (boxes_q w4)
    have HB2 := Lib.hid (boxes_s w4 ⟨k, g, n, h⟩)
    clear k4 hx hy hk
    go_upto_region 7 with (first | (with_reducible refine wpList_new_q rfl rfl ?_) | (with_reducible refine wpList_new_sp rfl rfl ?_) | ((with_reducible refine wpList_store_q rfl _ _ rfl w4.heap.size Zt ⟨k, g, n, h⟩ HB1.out ?_ ?_ ?_); exact rfl; exact rfl) | (refine wpList_store_sp rfl _ _ rfl (w4.alloc (.cells (ql Zt).toArray 24)).heap.size Zs ⟨(T.size : Nat), 0, 0⟩ HB2.out rfl rfl ?_))
    generalize (((w4.alloc (.cells (ql Zt).toArray 24)).alloc (.cells (sl Zs).toArray 27)).setRow w4.heap.size (ql ⟨k, g, n, h⟩).toArray).setRow (w4.alloc (.cells (ql Zt).toArray 24)).heap.size (sl ⟨(T.size : Nat), 0, 0⟩).toArray = X at *
    generalize (w4.alloc (.cells (ql Zt).toArray 24)).heap.size = gs at *
    generalize w4.heap.size = gq at *
    clear HB1 HB2
    simp only [pA, pN, sZ, sU]
    go_wp2_with fail
    refine wp_region_held_drew (S := Kept _) (by kernel_rfl) (Kept.refl _).drew (fun hHeld => ?_)
    refine rT 0 39 (.bool true) rfl rfl hHeld ?_
    simp only [pA, pN, sZ, sU]
    refine rT 1 40 (.bool true) rfl rfl hHeld ?_
    simp only [pA, pN, sZ, sU]
    refine rT 2 41 (.string T) rfl rfl hHeld ?_
    simp only [pA, pN, sZ, sU]
    refine rY 3 42 rfl rfl (take_load_q (by rfl) _ rfl w.heap.size 0 rfl ⟨k, g, n, h⟩ (fun _ h => TAt.range (TAt.kept (HW4.out) h))) hHeld ?_
    simp only [pA, pN, sZ, sU]
    refine rR 4 rfl (fun K hK => ?_)
    rw [if_pos (by rfl)]
    go_simp
    refine ((HTx.out _)).mono ?_
    rintro e x5 ⟨rfl, gx5⟩
    refine hK.out _ _ (hHeld.trans gx5) (fun _ => ?_)
    replace hHeld := hHeld.trans gx5
    clear hK K
    refine rT 5 44 (.bool true) rfl rfl hHeld ?_
    simp only [pA, pN, sZ, sU]
    refine rT 6 45 (.bool true) rfl rfl hHeld ?_
    simp only [pA, pN, sZ, sU]
    refine rT 7 46 (.bool true) rfl rfl hHeld ?_
    simp only [pA, pN, sZ, sU]
    refine rY 8 47 rfl rfl (take_load_q (by rfl) _ rfl gq 0 rfl ⟨k, g, n, h⟩ (fun _ h => TAt.range (TAt.kept (HQ.out) h))) hHeld ?_
    simp only [pA, pN, sZ, sU]
    refine rY 9 48 rfl rfl (take_load_q (by rfl) _ rfl w.heap.size 0 rfl ⟨k, g, n, h⟩ (fun _ h => TAt.range (TAt.kept (HW4.out) h))) hHeld ?_
    simp only [pA, pN, sZ, sU]
    refine rY 10 49 rfl rfl (take_eql_q (by rfl) _ _ _ rfl (⟨k, g, n, h⟩) (⟨k, g, n, h⟩) rfl rfl (rfl)) hHeld ?_
    simp only [pA, pN, sZ, sU]
    refine rT 11 50 (.bool true) rfl rfl hHeld ?_
    simp only [pA, pN, sZ, sU]
    refine rT 12 51 (.bool true) rfl rfl hHeld ?_
    simp only [pA, pN, sZ, sU]
    refine rY 13 52 rfl rfl (take_load_sp (by rfl) _ rfl gs 0 rfl ⟨(T.size : Nat), 0, 0⟩ (fun _ h => SAt.range (SAt.kept HS.out h))) hHeld ?_
    simp only [pA, pN, sZ, sU]
    refine rT 14 53 (.string T) rfl rfl hHeld ?_
    simp only [pA, pN, sZ, sU]
    refine rT 15 54 (.int .i64 T.size) rfl rfl hHeld ?_
    simp only [pA, pN, sZ, sU]
    refine rY 16 55 rfl rfl (take_bt_sa (by rfl) _ rfl (T.size : Nat) rfl) hHeld ?_
    simp only [pA, pN, sZ, sU]
    refine rY 17 56 rfl rfl (take_eql_sp (by rfl) _ _ _ rfl ⟨(T.size : Nat), 0, 0⟩ ⟨(T.size : Nat), 0, 0⟩ rfl rfl rfl) hHeld ?_
    simp only [pA, pN, sZ, sU]
    refine rT 18 57 (.bool true) rfl rfl hHeld ?_
    simp only [pA, pN, sZ, sU]
    refine rT 19 58 (.bool true) rfl rfl hHeld ?_
    simp only [pA, pN, sZ, sU]
    refine rY 20 59 rfl rfl (take_load_q (by rfl) _ rfl w.heap.size 0 rfl ⟨k, g, n, h⟩ (fun _ h => TAt.range (TAt.kept (HW4.out) h))) hHeld ?_
    simp only [pA, pN, sZ, sU]
    refine rY 22 61 rfl rfl (take_load_q (by rfl) _ rfl w.heap.size 0 rfl ⟨k, g, n, h⟩ (fun _ h => TAt.range (TAt.kept (HW4.out) h))) hHeld ?_
    simp only [pA, pN, sZ, sU]
    refine rR 21 rfl (fun K hK => ?_)
    rw [if_pos (by rfl)]
    go_simp
    refine ((HBg.out _)).mono ?_
    rintro e x6 ⟨rfl, gx6⟩
    refine hK.out _ _ (hHeld.trans gx6) (fun _ => ?_)
    replace hHeld := hHeld.trans gx6
    clear hK K
    refine rR 23 rfl (fun K hK => ?_)
    rw [if_pos (by rfl)]
    go_simp
    refine ((HRB.out _)).mono ?_
    rintro e x7 ⟨rfl, gx7⟩
    refine hK.out _ _ (hHeld.trans gx7) (fun _ => ?_)
    replace hHeld := hHeld.trans gx7
    clear hK K
    refine rT 24 63 (.bool true) rfl rfl hHeld ?_
    simp only [pA, pN, sZ, sU]
    refine rT 25 64 (.bool true) rfl rfl hHeld ?_
    simp only [pA, pN, sZ, sU]
    refine rT 26 65 (.bool true) rfl rfl hHeld ?_
    simp only [pA, pN, sZ, sU]
    refine rY 27 66 rfl rfl (take_load_q (by rfl) _ rfl w.heap.size 0 rfl ⟨k, g, n, h⟩ (fun _ h => TAt.range (TAt.kept (HW4.out) h))) hHeld ?_
    simp only [pA, pN, sZ, sU]
    refine rY 29 68 rfl rfl (take_load_q (by rfl) _ rfl w.heap.size 0 rfl ⟨k, g, n, h⟩ (fun _ h => TAt.range (TAt.kept (HW4.out) h))) hHeld ?_
    simp only [pA, pN, sZ, sU]
    refine rR 28 rfl (fun K hK => ?_)
    rw [if_pos (by rfl)]
    go_simp
    refine ((HPl.out _)).mono ?_
    rintro e x8 ⟨rfl, gx8⟩
    refine hK.out _ _ (hHeld.trans gx8) (fun _ => ?_)
    replace hHeld := hHeld.trans gx8
    clear hK K
    refine rR 30 rfl (fun K hK => ?_)
    rw [if_pos (by rfl)]
    go_simp
    refine ((HRP.out _)).mono ?_
    rintro e x9 ⟨rfl, gx9⟩
    refine hK.out _ _ (hHeld.trans gx9) (fun _ => ?_)
    replace hHeld := hHeld.trans gx9
    clear hK K
    refine rT 31 70 (.bool true) rfl rfl hHeld ?_
    simp only [pA, pN, sZ, sU]
    refine rT 32 71 (.bool true) rfl rfl hHeld ?_
    simp only [pA, pN, sZ, sU]
    refine rT 33 2 (.bool true) rfl rfl hHeld ?_
    simp only [pA, pN, sZ, sU]
    refine wpAnyH_done (by kernel_rfl) ?_ _
    have HKz := Lib.hid (HK4.out.trans hHeld)
    clear hHeld
    go_wp2
    go_ret
    exact ⟨rfl, HKz.out⟩
end Go.Proofs.YtnlgjakohoimhaaDoor
