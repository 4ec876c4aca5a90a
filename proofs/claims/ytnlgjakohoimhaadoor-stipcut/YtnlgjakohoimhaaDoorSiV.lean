/- The law StipCut walked. -/
import Derived.Test.YtnlgjakohoimhaaDoorSiU
import Derived.Laws.IdiomStrings
namespace Go.Proofs.YtnlgjakohoimhaaDoor
open Go.RowKit
set_option linter.unusedVariables false
set_option linter.unusedSimpArgs false
set_option maxRecDepth 100000
set_option maxHeartbeats 4000000

theorem conv_byte (c : UInt8) (x : Int) (hx : x = (c.toNat : Int)) (w : World) :
    (convert 41 9 (.slice (some ⟨w.heap.size, 0, none⟩) 1 1)).run Tryd.prog (w.alloc (.cells #[.int .u8 x] 5)) = .ok (.string ⟨#[c]⟩) (w.alloc (.cells #[.int .u8 x] 5)) := by
  subst hx
  have h3 := run_convert_bytes_back (P := Tryd.prog) (w.alloc (.cells #[.int .u8 (c.toNat : Int)] 5)) 41 9 5 ⟨w.heap.size, 0, none⟩ 1 [c] Tryd.underlying41 Tryd.underlying5 Tryd.underlying9 ?_
  · exact h3
  · intro j hj
    match j, hj with
    | 0, _ => simp [Addr.add, go_sem]
theorem walkStipCut (s : Stp) (n : Int) (wn : (Lit.int .u8 n).wf = true) (b : Int) (wb : (Lit.int .u8 b).wf = true) (w : World) (hT : TabS w) :
    Calls Tryd.prog 6 #[qv s, .int .u8 n, .int .u8 b] w fun e w' => e = .returned (.bool true) ∧ Kept w w' := by
  have HW := Lib.hid (TAt.new w s)
  have HK := Lib.hid ((Kept.refl w).alloc (.cells (ql s).toArray 24))
  have HWk := Lib.hid (fun w h => stip_wakes w h)
  have HWr := Lib.hid (fun w h => write_is s w h)
  have HRt := Lib.hid (rright_q s)
  have HT := Lib.hid (hT.kept HK.out)
  have hmin : IntKind.u8.min = 0 := by decide
  have hmax : IntKind.u8.max = 255 := by decide
  have hn0 : 0 ≤ n ∧ n ≤ 255 := by simpa [Lit.wf, hmin, hmax] using wn
  have hb0 : 0 ≤ b ∧ b ≤ 255 := by simpa [Lit.wf, hmin, hmax] using wb
  clear hmin hmax wn wb hT
  obtain ⟨n0, n1⟩ := hn0
  obtain ⟨b0, b1⟩ := hb0
  obtain ⟨ok, hb⟩ : ∃ ok, okS s = ok := ⟨_, rfl⟩
  rw [hb] at HRt HWr
  cases ok
  · rw [wrT_no hb] at HWr
    clear hb
    obtain ⟨k, g, m, h⟩ := s
    unfold qv
    dsimp only at *
    go_enter Tryd.func6, Tryd.ntmps6
    go_wp2_with fail
    refine (HWk.out _ HT.out).mono ?_
    rintro e w1 ⟨rfl, k1⟩
    have HW1 := Lib.hid (HW.out.kept k1)
    have HT1 := Lib.hid (HT.out.kept k1)
    have HK1 := Lib.hid (HK.out.trans k1)
    clear k1
    go_wp2_with (refine wpList_load_q (by rfl) _ rfl w.heap.size 0 rfl ⟨k, g, m, h⟩ HW1.out.range ?_)
    refine (HWr.out _ HT1.out).mono ?_
    rintro e w2 ⟨rfl, k2⟩
    have HW2 := Lib.hid (HW1.out.kept k2)
    have HK2 := Lib.hid (HK1.out.trans k2)
    clear k2
    go_wp2_with (refine wpList_load_q (by rfl) _ rfl w.heap.size 0 rfl ⟨k, g, m, h⟩ HW2.out.range ?_)
    refine (HRt.out _).mono ?_
    rintro e w3 ⟨rfl, k3⟩
    have HK3 := Lib.hid (HK2.out.trans k3)
    clear k3
    go_wp2
    go_ret
    exact ⟨rfl, HK3.out⟩
  · rw [wrT_ok hb] at HWr
    have hsm := txT_small hb
    obtain ⟨z0, z1⟩ := hsm
    have hcut := fun j hj => rd_cut hb j hj
    obtain ⟨c, hc⟩ : ∃ c : UInt8, b = (c.toNat : Int) := ⟨UInt8.ofNat b.toNat, by simp; omega⟩
    have hwh := fun h1 h2 => rd_whole hb c h1 h2
    have HRd := Lib.hid (fun T' hT' w h => read_is T' 0 hT' w h)
    generalize txT s = T at *
    clear hb
    obtain ⟨N, rfl⟩ : ∃ N : Nat, n = N := ⟨n.toNat, by omega⟩
    obtain ⟨K, hKe⟩ : ∃ K, N % T.size = K := ⟨_, rfl⟩
    have hKL : K < T.size := by rw [← hKe]; exact Nat.mod_lt _ (by omega)
    have e1 : (N : Int) % (T.size : Int) = (K : Int) := by rw [← hKe, Int.natCast_emod]
    have e2 : (N : Int).tmod (T.size : Int) = (K : Int) := by rw [Int.tmod_eq_emod_of_nonneg (by omega)]; exact e1
    have e3 : ((T.size : Int) == 0) = false := beq_eq_false_iff_ne.2 (by omega)
    have hsl := run_head T K (by omega) (T.extract 0 K) rfl
    have hT1 : (T.extract 0 K).size ≤ 1000 := by rw [← bs_len, bs_extract, List.drop_zero, List.length_take]; have := bs_len T; omega
    have hT2 : (T ++ ⟨#[c]⟩).size ≤ 1000 := by rw [ByteArray.size_append]; show T.size + 1 ≤ 1000; omega
    have HR1 := Lib.hid (HRd.out (T.extract 0 K) hT1)
    have HR2 := Lib.hid (HRd.out (T ++ ⟨#[c]⟩) hT2)
    have HCut := Lib.hid (hcut K hKL)
    have HWh := Lib.hid hwh
    generalize T.extract 0 K = T1 at *
    clear HRd hcut hwh hKe hT1 hT2
    rcases hr1 : rdP T1 0 with ⟨q1, y1⟩
    rcases hr2 : rdP (T ++ ⟨#[c]⟩) 0 with ⟨q2, y2⟩
    rw [hr1] at HR1 HCut
    rw [hr2] at HR2 HWh
    dsimp only at HR1 HCut HR2 HWh
    have HC := Lib.hid hc
    clear hr1 hr2 hc
    obtain ⟨k, g, m, h⟩ := s
    unfold qv
    dsimp only at *
    go_enter Tryd.func6, Tryd.ntmps6
    go_wp2_with fail
    refine (HWk.out _ HT.out).mono ?_
    rintro e w1 ⟨rfl, k1⟩
    have HW1 := Lib.hid (HW.out.kept k1)
    have HT1 := Lib.hid (HT.out.kept k1)
    have HK1 := Lib.hid (HK.out.trans k1)
    clear k1
    go_wp2_with (refine wpList_load_q (by rfl) _ rfl w.heap.size 0 rfl ⟨k, g, m, h⟩ HW1.out.range ?_)
    refine (HWr.out _ HT1.out).mono ?_
    rintro e w2 ⟨rfl, k2⟩
    have HW2 := Lib.hid (HW1.out.kept k2)
    have HT2 := Lib.hid (HT1.out.kept k2)
    have HK2 := Lib.hid (HK1.out.trans k2)
    clear k2
    go_wp2_with fail
    refine (HR1.out _ HT2.out).mono ?_
    rintro e w3 ⟨rfl, k3⟩
    obtain ⟨hx, hy, hk⟩ := boxes_2 w3 q1 y1
    have HS1 := Lib.hid hy
    have HW3 := Lib.hid ((HW2.out.kept k3).kept hk)
    have HT3 := Lib.hid ((HT2.out.kept k3).kept hk)
    have HK3 := Lib.hid ((HK2.out.trans k3).trans hk)
    clear k3
    have HB1 := Lib.hid (boxes_q w3)
    have HB2 := Lib.hid (boxes_s w3 q1)
    clear hx hy hk
    go_upto_region 8 with (first | (with_reducible refine wpList_new_q rfl rfl ?_) | (with_reducible refine wpList_new_sp rfl rfl ?_) | ((with_reducible refine wpList_store_q rfl _ _ rfl w3.heap.size Zt q1 HB1.out ?_ ?_ ?_); exact rfl; exact rfl) | (refine wpList_store_sp rfl _ _ rfl (w3.alloc (.cells (ql Zt).toArray 24)).heap.size Zs y1 HB2.out rfl rfl ?_))
    generalize (((w3.alloc (.cells (ql Zt).toArray 24)).alloc (.cells (sl Zs).toArray 27)).setRow w3.heap.size (ql q1).toArray).setRow (w3.alloc (.cells (ql Zt).toArray 24)).heap.size (sl y1).toArray = X at *
    generalize (w3.alloc (.cells (ql Zt).toArray 24)).heap.size = g11 at *
    generalize w3.heap.size = g10 at *
    clear HB1 HB2
    simp only [pA, pN, sZ, sU]
    have hcv := conv_byte c b HC.out X
    go_wp2_with fail
    refine (HR2.out _ (HT3.out.kept ((Kept.refl X).alloc _))).mono ?_
    rintro e w4 ⟨rfl, k4⟩
    replace k4 := ((Kept.refl X).alloc _).trans k4
    clear hcv
    obtain ⟨hx, hy, hk⟩ := boxes_2 w4 q2 y2
    have HS2 := Lib.hid hy
    have HQ2 := Lib.hid hx
    have HS1y := Lib.hid ((HS1.out.kept k4).kept hk)
    have HWy := Lib.hid ((HW3.out.kept k4).kept hk)
    have HKy := Lib.hid ((HK3.out.trans k4).trans hk)
    clear k4
    have HB1 := Lib.hid (boxes_q w4)
    have HB2 := Lib.hid (boxes_s w4 q2)
    clear hx hy hk
    go_upto_region 9 with (first | (with_reducible refine wpList_new_q rfl rfl ?_) | (with_reducible refine wpList_new_sp rfl rfl ?_) | ((with_reducible refine wpList_store_q rfl _ _ rfl w4.heap.size Zt q2 HB1.out ?_ ?_ ?_); exact rfl; exact rfl) | (refine wpList_store_sp rfl _ _ rfl (w4.alloc (.cells (ql Zt).toArray 24)).heap.size Zs y2 HB2.out rfl rfl ?_))
    generalize (((w4.alloc (.cells (ql Zt).toArray 24)).alloc (.cells (sl Zs).toArray 27)).setRow w4.heap.size (ql q2).toArray).setRow (w4.alloc (.cells (ql Zt).toArray 24)).heap.size (sl y2).toArray = Y at *
    generalize (w4.alloc (.cells (ql Zt).toArray 24)).heap.size = g13 at *
    generalize w4.heap.size = g12 at *
    clear HB1 HB2
    simp only [pA, pN, sZ, sU]
    have hx1 := HS1y.out.err
    have hx0 := HS1y.out.at0
    have HFin : Hid (isD c = true ∨ c = 46 ∨ (q2 = ⟨k, g, m, h⟩ ∧ y2 = ⟨(T.size : Nat), 0, 0⟩)) := Lib.hid (by
      cases hd : isD c
      · by_cases h46 : c = 46
        · exact .inr (.inl h46)
        · right; right
          have := HWh.out hd h46
          exact ⟨congrArg Prod.fst this, congrArg Prod.snd this⟩
      · exact .inl rfl)
    clear HWh
    rcases HCut.out with h0 | h1
    · have c2 : (y1.e == 2) = false := by rw [h0]; rfl
      have c1 : (y1.e == 1) = false := by rw [h0]; rfl
      clear h0
      rcases HFin.out with hd | hd | ⟨hd1, hd2⟩
      · rw [isD_iff] at hd
        have hb1 : (48 : Int) ≤ b := by have := HC.out; omega
        have hb2 : b ≤ (57 : Int) := by have := HC.out; omega
        clear hd
        go_wp2
        go_ret
        exact ⟨rfl, HKy.out⟩
      · have hb1 : b = 46 := by have := HC.out; rw [hd] at this; exact this
        have hb2 : (b == 46) = true := beq_iff_eq.2 hb1
        have hb3 : decide (48 ≤ b) = false := decide_eq_false (by omega)
        clear hd hb1
        go_wp2
        go_ret
        exact ⟨rfl, HKy.out⟩
      · rw [hd2] at HS2
        rw [hd1] at HQ2
        clear hd1 hd2
        by_cases hp1 : (48 : Int) ≤ b
        · by_cases hp2 : b ≤ (57 : Int)
          · go_wp2
            go_ret
            exact ⟨rfl, HKy.out⟩
          · have d1 : decide ((48 : Int) ≤ b) = true := decide_eq_true hp1
            have d2 : decide (b ≤ (57 : Int)) = false := decide_eq_false hp2
            obtain ⟨e46, h46⟩ : ∃ e46, (b == 46) = e46 := ⟨_, rfl⟩
            cases e46
            · go_wp2_with (first | ((with_reducible refine wpList_load_q rfl _ rfl g12 0 ?_ ⟨k, g, m, h⟩ HQ2.out.range ?_); exact rfl) | ((with_reducible refine wpList_load_q rfl _ rfl w.heap.size 0 ?_ ⟨k, g, m, h⟩ HWy.out.range ?_); exact rfl) | (refine wpList_eql_q (by rfl) _ _ _ rfl ⟨k, g, m, h⟩ rfl rfl ?_) | ((with_reducible refine wpList_load_sp rfl _ rfl g13 0 ?_ ⟨(T.size : Nat), 0, 0⟩ HS2.out.range ?_); exact rfl) | (refine wpList_bt_saw (by rfl) _ rfl (T.size : Nat) rfl ?_) | (refine wpList_eql_sp (by rfl) _ _ _ rfl ⟨(T.size : Nat), 0, 0⟩ rfl rfl ?_))
              go_ret
              exact ⟨rfl, HKy.out⟩
            · go_wp2
              go_ret
              exact ⟨rfl, HKy.out⟩
        · have d1 : decide ((48 : Int) ≤ b) = false := decide_eq_false hp1
          obtain ⟨e46, h46⟩ : ∃ e46, (b == 46) = e46 := ⟨_, rfl⟩
          cases e46
          · go_wp2_with (first | ((with_reducible refine wpList_load_q rfl _ rfl g12 0 ?_ ⟨k, g, m, h⟩ HQ2.out.range ?_); exact rfl) | ((with_reducible refine wpList_load_q rfl _ rfl w.heap.size 0 ?_ ⟨k, g, m, h⟩ HWy.out.range ?_); exact rfl) | (refine wpList_eql_q (by rfl) _ _ _ rfl ⟨k, g, m, h⟩ rfl rfl ?_) | ((with_reducible refine wpList_load_sp rfl _ rfl g13 0 ?_ ⟨(T.size : Nat), 0, 0⟩ HS2.out.range ?_); exact rfl) | (refine wpList_bt_saw (by rfl) _ rfl (T.size : Nat) rfl ?_) | (refine wpList_eql_sp (by rfl) _ _ _ rfl ⟨(T.size : Nat), 0, 0⟩ rfl rfl ?_))
            go_ret
            exact ⟨rfl, HKy.out⟩
          · go_wp2
            go_ret
            exact ⟨rfl, HKy.out⟩
    · rw [h1] at hx1 hx0
      dsimp only at hx1 hx0
      clear h1
      rcases HFin.out with hd | hd | ⟨hd1, hd2⟩
      · rw [isD_iff] at hd
        have hb1 : (48 : Int) ≤ b := by have := HC.out; omega
        have hb2 : b ≤ (57 : Int) := by have := HC.out; omega
        clear hd
        go_wp2
        go_ret
        exact ⟨rfl, HKy.out⟩
      · have hb1 : b = 46 := by have := HC.out; rw [hd] at this; exact this
        have hb2 : (b == 46) = true := beq_iff_eq.2 hb1
        have hb3 : decide (48 ≤ b) = false := decide_eq_false (by omega)
        clear hd hb1
        go_wp2
        go_ret
        exact ⟨rfl, HKy.out⟩
      · rw [hd2] at HS2
        rw [hd1] at HQ2
        clear hd1 hd2
        by_cases hp1 : (48 : Int) ≤ b
        · by_cases hp2 : b ≤ (57 : Int)
          · go_wp2
            go_ret
            exact ⟨rfl, HKy.out⟩
          · have d1 : decide ((48 : Int) ≤ b) = true := decide_eq_true hp1
            have d2 : decide (b ≤ (57 : Int)) = false := decide_eq_false hp2
            obtain ⟨e46, h46⟩ : ∃ e46, (b == 46) = e46 := ⟨_, rfl⟩
            cases e46
            · go_wp2_with (first | ((with_reducible refine wpList_load_q rfl _ rfl g12 0 ?_ ⟨k, g, m, h⟩ HQ2.out.range ?_); exact rfl) | ((with_reducible refine wpList_load_q rfl _ rfl w.heap.size 0 ?_ ⟨k, g, m, h⟩ HWy.out.range ?_); exact rfl) | (refine wpList_eql_q (by rfl) _ _ _ rfl ⟨k, g, m, h⟩ rfl rfl ?_) | ((with_reducible refine wpList_load_sp rfl _ rfl g13 0 ?_ ⟨(T.size : Nat), 0, 0⟩ HS2.out.range ?_); exact rfl) | (refine wpList_bt_saw (by rfl) _ rfl (T.size : Nat) rfl ?_) | (refine wpList_eql_sp (by rfl) _ _ _ rfl ⟨(T.size : Nat), 0, 0⟩ rfl rfl ?_))
              go_ret
              exact ⟨rfl, HKy.out⟩
            · go_wp2
              go_ret
              exact ⟨rfl, HKy.out⟩
        · have d1 : decide ((48 : Int) ≤ b) = false := decide_eq_false hp1
          obtain ⟨e46, h46⟩ : ∃ e46, (b == 46) = e46 := ⟨_, rfl⟩
          cases e46
          · go_wp2_with (first | ((with_reducible refine wpList_load_q rfl _ rfl g12 0 ?_ ⟨k, g, m, h⟩ HQ2.out.range ?_); exact rfl) | ((with_reducible refine wpList_load_q rfl _ rfl w.heap.size 0 ?_ ⟨k, g, m, h⟩ HWy.out.range ?_); exact rfl) | (refine wpList_eql_q (by rfl) _ _ _ rfl ⟨k, g, m, h⟩ rfl rfl ?_) | ((with_reducible refine wpList_load_sp rfl _ rfl g13 0 ?_ ⟨(T.size : Nat), 0, 0⟩ HS2.out.range ?_); exact rfl) | (refine wpList_bt_saw (by rfl) _ rfl (T.size : Nat) rfl ?_) | (refine wpList_eql_sp (by rfl) _ _ _ rfl ⟨(T.size : Nat), 0, 0⟩ rfl rfl ?_))
            go_ret
            exact ⟨rfl, HKy.out⟩
          · go_wp2
            go_ret
            exact ⟨rfl, HKy.out⟩
end Go.Proofs.YtnlgjakohoimhaaDoor
