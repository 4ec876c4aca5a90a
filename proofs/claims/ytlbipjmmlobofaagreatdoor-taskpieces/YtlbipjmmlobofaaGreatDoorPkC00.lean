/- The walk of TaskPieces. -/
import Derived.Test.YtlbipjmmlobofaaGreatDoorPkB04
namespace Go.Proofs.YtlbipjmmlobofaaGreatDoor
open Go.RowKit
set_option linter.unusedVariables false
set_option linter.unusedSimpArgs false
set_option maxRecDepth 100000
set_option maxHeartbeats 16000000

theorem wp_new_k {o : Oper} {a : Act} {w : World} {K : Act → World → Prop} {Q : Exit → Act → World → Prop} (ho : o.op = .alloc 30)
    (h : K (a.put o.dst (.pointer (some ⟨w.heap.size, 0, none⟩))) (w.alloc (.cells (kcl Z75).toArray 30))) : o.wp Tryz.prog a w K Q := by
  unfold Oper.wp execOp
  simp only [ho, Instr.alloc, Sem.run_bind, run_zero_k, Result.andThen_ok, newVar, newRow, Value.cells]
  exact h
theorem kpie_no (K : Tk) (hB : Brd K.B) (h : okK K = false) (w : World) (hT : tabsW w) :
    Calls Tryz.prog 6 #[kv K] w fun e w' => e = .returned (.bool true) ∧ Kept w w' := by
  have H1 := Lib.hid (KAt.new w hB.1)
  have K1 := Lib.hid ((Kept.refl w).alloc (.cells (kcl K).toArray 30))
  have HT := Lib.hid hT
  have HWk := Lib.hid (fun w hT => task_wakes w hT)
  have HWr := Lib.hid (fun w hT => kwrite_no K hB h w hT)
  clear hT h hB
  go_enter Tryz.func6, Tryz.ntmps6
  go_upto_region 1 with (refine wpList_box_k rfl _ rfl K rfl ?_)
  generalize w.alloc (.cells (kcl K).toArray 30) = W1 at *
  generalize w.heap.size = g at *
  go_wp2_with fail
  refine (HWk.out _ (HT.out.kept K1.out).1).mono ?_
  rintro e w2 ⟨rfl, k2⟩
  have H2 := Lib.hid (H1.out.heap k2)
  have K2 := Lib.hid (K1.out.trans k2)
  clear k2
  go_wp2_with (refine wpList_load_k (by rfl) _ rfl g rfl K H2.out ?_)
  refine (HWr.out _ (HT.out.kept K2.out)).mono ?_
  rintro e w3 ⟨rfl, k3⟩
  have K3 := Lib.hid (K2.out.trans k3)
  clear k3
  go_wp2
  go_ret
  exact ⟨rfl, K3.out⟩
theorem kpie_yes (K : Tk) (hB : Brd K.B) (h : okK K = true) (w : World) (hT : tabsW w) :
    Calls Tryz.prog 6 #[kv K] w fun e w' => e = .returned (.bool true) ∧ Kept w w' := by
  have H1 := Lib.hid (KAt.new w hB.1)
  have K1 := Lib.hid ((Kept.refl w).alloc (.cells (kcl K).toArray 30))
  have HT := Lib.hid hT
  have hlen := Lib.hid hB.1
  have HWk := Lib.hid (fun w hT => task_wakes w hT)
  have HWr := Lib.hid (fun w hT => kwrite_yes K hB h w hT)
  have hb : rightB K.B = true := by
    have h' := h
    unfold okK at h'
    simp only [Bool.and_eq_true] at h'
    exact h'.1
  have HRo := Lib.hid (fun w => rollrwrite_yes K.B hB hb w)
  have z1 := txK_small h
  have hrp := txP_rd hB h
  have hln := lnP_at hB hb
  have hps := txP_parts K
  have hks := txK_parts K
  have hrl := rollT_small K.B
  have hx0 : (txA K).length + lnP K = (txK K).size := by
    have := congrArg List.length hln.2.2.2.2
    rw [List.length_drop, bs_len] at this
    have := hln.2.2.1
    omega
  have hxs : (txP K).size = 13 + (rollT K.B).length + (txA K).length := by
    rw [← bs_len, hps]; unfold begL; simp only [List.length_append, List.length_cons, List.length_nil]; omega
  have hRP := Lib.hid (fun w hT => taskread_is (txP K) (by rw [hxs]; omega) w hT)
  unfold KRet at hRP
  rw [hrp.1, hrp.2] at hRP
  clear hrp hks hT h
  have hlp : 14 ≤ lnP K := by unfold lnP; omega
  have hparts : (begL ++ ([112, 105, 101, 99, 101, 115, 32] ++ rollT K.B)) ++ txA K = bs (txP K) := by rw [hps, List.append_assoc]
  clear hps
  obtain ⟨n6, n10, nsz, t6, td⟩ := hln
  rw [← t6, ← td] at hparts
  generalize txP K = P at *
  generalize txK K = T at *
  generalize lnP K = L at *
  obtain ⟨R, hR⟩ : ∃ R : ByteArray, R = ⟨(rollT K.B).toArray⟩ := ⟨_, rfl⟩
  have hRb : bs R = rollT K.B := by rw [hR]; rfl
  rw [← hR] at HRo
  rw [← hRb] at hparts hxs hrl
  rw [bs_len] at hxs hrl
  clear hR hRb t6 td
  generalize (txA K).length = A at *
  have hN6 := Lib.hid n6
  have hN10 := Lib.hid n10
  have hPP := Lib.hid hparts
  clear n6 n10 hparts hb hB
  go_enter Tryz.func6, Tryz.ntmps6
  go_upto_region 1 with (refine wpList_box_k rfl _ rfl K rfl ?_)
  generalize w.alloc (.cells (kcl K).toArray 30) = W1 at *
  generalize w.heap.size = g at *
  go_wp2_with fail
  refine (HWk.out _ (HT.out.kept K1.out).1).mono ?_
  rintro e w2 ⟨rfl, k2⟩
  have H2 := Lib.hid (H1.out.heap k2)
  have K2 := Lib.hid (K1.out.trans k2)
  clear k2
  go_wp2_with (refine wpList_load_k (by rfl) _ rfl g rfl K H2.out ?_)
  refine (HWr.out _ (HT.out.kept K2.out)).mono ?_
  rintro e w3 ⟨rfl, k3⟩
  have K3 := Lib.hid (K2.out.trans k3)
  have H3 := Lib.hid (H2.out.heap k3)
  clear k3
  go_wp2_with (refine wpList_load_midw (by rfl) 24 _ rfl g 0 rfl (cl K.B) _ H3.out.boardR Tryz.underlying24 rfl (by rw [size24, cl_length, hlen.out]) ?_)
  refine (HRo.out _).mono ?_
  rintro e w4 ⟨rfl, k4⟩
  have K4 := Lib.hid (K3.out.trans k4)
  have H4 := Lib.hid (H3.out.heap k4)
  clear k4
  go_wp2
  go_loopw [8] (fun t8 wr => ∃ p : Nat, t8 = .int .i64 (p : Int) ∧ 6 ≤ p ∧ p ≤ L ∧ KAt wr g K ∧ Kept w wr) (fun t8 _ => L + 1 - (intOf t8).toNat)
  case atStart => exact ⟨6, rfl, by omega, by omega, H4.out, K4.out⟩
  case round =>
    obtain ⟨p, rfl, hp6, hpL, hA, hK⟩ := hrel
    have HA := Lib.hid hA
    have HK := Lib.hid hK
    clear hA hK
    obtain ⟨b, hb⟩ : ∃ b, (bs T)[p]? = some b := ⟨_, bs_getq T p (by omega)⟩
    have hix := run_idx T (p : Int) p (by omega) b hb
    by_cases hpl : p < L
    · have b1 : ((b.toNat : Int) == 10) = false := beq_eq_false_iff_ne.2 (fun e => hN6.out p hp6 hpl (by rw [hb]; exact congrArg some (UInt8.toNat.inj (by have : (10 : UInt8).toNat = 10 := rfl; omega))))
      clear hb
      go_wp2
      go_roundw
      case rel => exact ⟨p + 1, by go_num, by omega, by omega, HA.out, HK.out⟩
      case measure => simp [intOf]; omega
    · obtain rfl : p = L := by omega
      have b1 : ((b.toNat : Int) == 10) = true := by rw [hN10.out] at hb; injection hb with hb; rw [← hb]; rfl
      clear hb
      obtain ⟨P1, hP1⟩ : ∃ P1, T.extract 0 6 = P1 := ⟨_, rfl⟩
      obtain ⟨P2, hP2⟩ : ∃ P2, T.extract p T.size = P2 := ⟨_, rfl⟩
      have hs1 : ∀ w : World, (Instr.slice 9 (.string T) none (some (.int .i64 6)) none).run Tryz.prog w = .ok (.string P1) w := lrun_head T 6 (by omega) P1 hP1
      have hs2 := lrun_rest T p (by omega) P2 hP2
      have hE1 : bs P1 = (bs T).take 6 := by rw [← hP1, bs_extract, List.drop_zero]
      obtain ⟨hz2, hE2⟩ := rest_facts (by omega) hP2
      have hz1 : P1.size = 6 := by rw [← bs_len, hE1, List.length_take, bs_len]; omega
      have hPE : ((P1 ++ ⟨#[112, 105, 101, 99, 101, 115, 32]⟩) ++ R) ++ P2 = P := by
        apply bs_inj
        rw [← hPP.out, bs_append, bs_append, bs_append, hE1, hE2, List.append_assoc (List.take 6 (bs T))]
        rfl
      obtain ⟨C1, hC1⟩ : ∃ C1, P1 ++ (⟨#[112, 105, 101, 99, 101, 115, 32]⟩ : ByteArray) = C1 := ⟨_, rfl⟩
      obtain ⟨C2, hC2⟩ : ∃ C2, C1 ++ R = C2 := ⟨_, rfl⟩
      have y1 : C1.size = 13 := by rw [← hC1, ByteArray.size_append, hz1]; rfl
      have y2 : C2.size = 13 + R.size := by rw [← hC2, ByteArray.size_append, y1]
      rw [hC1, hC2] at hPE
      have q1 : ¬ 9223372036854775807 < P1.size + 7 := by omega
      have q2 : 13 + R.size ≤ 9223372036854775807 := by omega
      have q3 : 13 + R.size + (T.size - p) ≤ 9223372036854775807 := by omega
      have hEq : ((13 : Int) + (R.size : Int) + (A : Int) == (T.size : Int) - ((p : Int) - 6) + 7 + (R.size : Int)) = true := beq_iff_eq.2 (by omega)
      clear hP1 hP2 hE1 hE2
      go_upto_region 11 with fail
      refine wp_region_held_drew (S := Kept _) (by kernel_rfl) (Kept.refl _).drew (fun hHeld => ?_)
      refine rT 0 38 (.string T) rfl rfl hHeld ?_
      simp only [Act.put, sA, sZ, sU]
      refine rT 1 39 (.int .i64 6) rfl rfl hHeld ?_
      simp only [pA, pN, sZ, sU]
      refine rT 2 40 (.string P1) rfl rfl hHeld ?_
      simp only [pA, pN, sZ, sU]
      refine rT 3 41 (.string C1) rfl rfl hHeld ?_
      simp only [pA, pN, sZ, sU]
      refine rT 4 42 (.string R) rfl rfl hHeld ?_
      simp only [pA, pN, sZ, sU]
      refine rT 5 43 (.string C2) rfl rfl hHeld ?_
      simp only [pA, pN, sZ, sU]
      refine rT 6 44 (.string T) rfl rfl hHeld ?_
      simp only [pA, pN, sZ, sU]
      refine rT 7 45 (.int .i64 p) rfl rfl hHeld ?_
      simp only [pA, pN, sZ, sU]
      refine rT 8 46 (.string P2) rfl rfl hHeld ?_
      simp only [pA, pN, sZ, sU]
      refine rT 9 47 (.string P) rfl rfl hHeld ?_
      simp only [pA, pN, sZ, sU]
      refine wpAnyH_ready (rs := [10, 15]) (by kernel_rfl) (by simp) ?_
      refine AllReadyH.cons rfl (fun K' hK' => ?_) (AllReadyH.cons rfl (fun K' hK' => ?_) AllReadyH.nil)
      · go_simp
        refine (hRP.out _ (HT.out.kept (HK.out.trans hHeld)).1).mono ?_
        rintro e x1 ⟨rfl, -, k1⟩
        refine hK'.out _ _ (hHeld.trans k1) (fun _ => ?_)
        replace hHeld := hHeld.trans k1
        clear hK' K' k1
        refine rT 11 37 (.tuple #[kv K, .int .i64 P.size, .int .i64 0]) rfl rfl hHeld ?_
        simp only [pA, pN, sZ, sU]
        refine rT 12 49 (kv K) rfl rfl hHeld ?_
        simp only [pA, pN, sZ, sU]
        refine rT 13 50 (.int .i64 P.size) rfl rfl hHeld ?_
        simp only [pA, pN, sZ, sU]
        refine rT 14 51 (.int .i64 0) rfl rfl hHeld ?_
        simp only [pA, pN, sZ, sU]
        refine wpAnyH_ready (rs := [15]) (by kernel_rfl) (by simp) ?_
        refine AllReadyH.cons rfl (fun K' hK' => ?_) AllReadyH.nil
        rw [if_pos (by rfl)]
        refine wp_new_k rfl ?_
        refine hK'.out _ _ (hHeld.alloc _) (fun _ => ?_)
        clear hK' K'
        have hS9 := KAt.new x1 Z75_len
        have hlo := hHeld.size
        replace hHeld := hHeld.alloc (.cells (kcl Z75).toArray 30)
        generalize x1.alloc (.cells (kcl Z75).toArray 30) = y5 at *
        generalize x1.heap.size = g9 at *
        refine wpAnyH_ready (rs := [16]) (by kernel_rfl) (by simp) ?_
        refine AllReadyH.cons rfl (fun K' hK' => ?_) AllReadyH.nil
        rw [if_pos (by rfl)]
        refine wp_store_row 30 _ _ rfl g9 (kcl K).toArray rfl rfl 30 _ hS9.at_ (size_kcl hlen.out) (by rw [kcl_size hlen.out]; exact kcl_size Z75_len) (kcl_one _) ?_
        refine hK'.out _ _ (hHeld.setRow hlo _) (fun _ => ?_)
        clear hK' K'
        have hG9 := Lib.hid (hS9.row K hlen.out)
        replace hHeld := hHeld.setRow hlo (kcl K).toArray
        refine rT 17 10 (.int .i64 P.size) rfl rfl hHeld ?_
        try simp only [Act.put, sA, pA, pN, sZ, sU]
        refine rT 18 11 (.int .i64 0) rfl rfl hHeld ?_
        try simp only [Act.put, sA, pA, pN, sZ, sU]
        refine wpAnyH_done (by kernel_rfl) ?_ _
        have hGK := Lib.hid (HA.out.heap hHeld)
        have hKK := Lib.hid (HK.out.trans hHeld)
        clear hHeld hS9
        go_wp2_with (first | (refine wpList_load_k (by rfl) _ rfl g9 rfl K hG9.out ?_) | (refine wpList_load_k (by rfl) _ rfl g rfl K hGK.out ?_) | (refine wpList_eql_k (by rfl) _ _ _ rfl K hlen.out rfl rfl ?_))
        go_ret
        exact ⟨rfl, hKK.out⟩
      · rw [if_pos (by rfl)]
        refine wp_new_k rfl ?_
        refine hK'.out _ _ (hHeld.alloc _) (fun _ => ?_)
        clear hK' K'
        have hS9 := KAt.new wr.drew Z75_len
        have hlo := hHeld.size
        replace hHeld := hHeld.alloc (.cells (kcl Z75).toArray 30)
        generalize wr.drew.alloc (.cells (kcl Z75).toArray 30) = y5 at *
        generalize wr.drew.heap.size = g9 at *
        refine wpAnyH_ready (rs := [10]) (by kernel_rfl) (by simp) ?_
        refine AllReadyH.cons rfl (fun K' hK' => ?_) AllReadyH.nil
        go_simp
        refine (hRP.out _ (HT.out.kept (HK.out.trans hHeld)).1).mono ?_
        rintro e x1 ⟨rfl, -, k1⟩
        refine hK'.out _ _ (hHeld.trans k1) (fun _ => ?_)
        replace hHeld := hHeld.trans k1
        replace hS9 := hS9.heap k1
        clear hK' K' k1
        refine rT 11 37 (.tuple #[kv K, .int .i64 P.size, .int .i64 0]) rfl rfl hHeld ?_
        simp only [Act.put, sA, sZ, sU]
        refine rT 12 49 (kv K) rfl rfl hHeld ?_
        simp only [pA, pN, sZ, sU]
        refine rT 13 50 (.int .i64 P.size) rfl rfl hHeld ?_
        simp only [pA, pN, sZ, sU]
        refine rT 14 51 (.int .i64 0) rfl rfl hHeld ?_
        simp only [pA, pN, sZ, sU]
        refine wpAnyH_ready (rs := [16]) (by kernel_rfl) (by simp) ?_
        refine AllReadyH.cons rfl (fun K' hK' => ?_) AllReadyH.nil
        rw [if_pos (by rfl)]
        refine wp_store_row 30 _ _ rfl g9 (kcl K).toArray rfl rfl 30 _ hS9.at_ (size_kcl hlen.out) (by rw [kcl_size hlen.out]; exact kcl_size Z75_len) (kcl_one _) ?_
        refine hK'.out _ _ (hHeld.setRow hlo _) (fun _ => ?_)
        clear hK' K'
        have hG9 := Lib.hid (hS9.row K hlen.out)
        replace hHeld := hHeld.setRow hlo (kcl K).toArray
        refine rT 17 10 (.int .i64 P.size) rfl rfl hHeld ?_
        try simp only [Act.put, sA, pA, pN, sZ, sU]
        refine rT 18 11 (.int .i64 0) rfl rfl hHeld ?_
        try simp only [Act.put, sA, pA, pN, sZ, sU]
        refine wpAnyH_done (by kernel_rfl) ?_ _
        have hGK := Lib.hid (HA.out.heap hHeld)
        have hKK := Lib.hid (HK.out.trans hHeld)
        clear hHeld hS9
        go_wp2_with (first | (refine wpList_load_k (by rfl) _ rfl g9 rfl K hG9.out ?_) | (refine wpList_load_k (by rfl) _ rfl g rfl K hGK.out ?_) | (refine wpList_eql_k (by rfl) _ _ _ rfl K hlen.out rfl rfl ?_))
        go_ret
        exact ⟨rfl, hKK.out⟩
theorem walkTaskPieces (K : Tk) (hB : Brd K.B) (w : World) (hT : tabsW w) :
    Calls Tryz.prog 6 #[kv K] w fun e w' => e = .returned (.bool true) ∧ Kept w w' := by
  cases h : okK K
  · exact kpie_no K hB h w hT
  · exact kpie_yes K hB h w hT
end Go.Proofs.YtlbipjmmlobofaaGreatDoor
