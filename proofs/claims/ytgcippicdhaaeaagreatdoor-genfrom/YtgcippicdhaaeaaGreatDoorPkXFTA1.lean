/- PoF · GeL: my texts, in their order. -/
import Derived.Test.YtgcippicdhaaeaaGreatDoorPkXFTA0
import Derived.Test.YtgcippicdhaaeaaGreatDoorPkA
import Derived.Test.YtgcippicdhaaeaaGreatDoorPkB
import Derived.Test.YtgcippicdhaaeaaGreatDoorPkC
import Derived.Test.YtgcippicdhaaeaaGreatDoorPkD
import Derived.Test.YtgcippicdhaaeaaGreatDoorPkE
import Derived.Test.YtgcippicdhaaeaaGreatDoorPkF
import Derived.Test.YtgcippicdhaaeaaGreatDoorPkGa
import Derived.Test.YtgcippicdhaaeaaGreatDoorPkGf
import Derived.Test.YtgcippicdhaaeaaGreatDoorPkGg
import Derived.Test.YtgcippicdhaaeaaGreatDoorPkH
import Derived.Test.YtgcippicdhaaeaaGreatDoorPkI
import Derived.Test.YtgcippicdhaaeaaGreatDoorPkJ
import Derived.Test.YtgcippicdhaaeaaGreatDoorPkK
import Derived.Test.YtgcippicdhaaeaaGreatDoorPkL
import Derived.Test.YtgcippicdhaaeaaGreatDoorPkM
namespace Go.Proofs.YtgcippicdhaaeaaGreatDoor
open Go.RowKit
set_option linter.unusedVariables false
set_option linter.unusedSimpArgs false

theorem rpw_board (p : Ps) (hB : Brd p.B) (a0 : wrongI p.B ≠ 0) (w : World) :
    Calls Tryz.prog 24 #[.agg (pl p).toArray] w fun e w' => e = .returned (.int .i64 (pwI p)) ∧ Kept w w' := by
  have HP := Lib.hid (PAt.new w hB.1)
  have HK0 := Lib.hid ((Kept.refl w).alloc (.cells (pl p).toArray 26))
  have HB := Lib.hid hB
  have HC0 := Lib.hid (rwrong_is p.B hB)
  have HF : Hid (pwI p = wrongI p.B) := by unfold pwI; rw [if_pos a0]; rfl
  have b0 : (wrongI p.B != 0) = true := bne_iff_ne.2 a0
  clear hB a0
  go_enter Tryz.func24, Tryz.ntmps24
  go_wp2_with (first | (refine wpList_load_ps (by rfl) _ rfl _ rfl _ (HP.out) ?_) | (refine wpList_load_pb (by rfl) _ rfl _ rfl _ (HP.out) ?_))
  refine (HC0.out _).mono ?_
  rintro e w1 ⟨rfl, k1⟩
  have HK1 := Lib.hid (HK0.out.trans k1)
  have HP1 := Lib.hid (HP.out.kept k1)
  have ct := HP1.out.turn
  have cc := HP1.out.cas
  have ce := HP1.out.ep
  clear k1
  go_wp2
  go_ret
  exact ⟨by rw [HF.out]; rfl, HK1.out⟩
theorem rpw_t0 (p : Ps) (hB : Brd p.B) (a0 : wrongI p.B = 0) (h : p.t < 0) (w : World) :
    Calls Tryz.prog 24 #[.agg (pl p).toArray] w fun e w' => e = .returned (.int .i64 (pwI p)) ∧ Kept w w' := by
  have HP := Lib.hid (PAt.new w hB.1)
  have HK0 := Lib.hid ((Kept.refl w).alloc (.cells (pl p).toArray 26))
  have HB := Lib.hid hB
  have HC0 := Lib.hid (rwrong_is p.B hB)
  have HF : Hid (pwI p = 5) := by
    have : withinB p = false := by rw [← Bool.not_eq_true, within_iff]; omega
    unfold pwI; rw [if_neg (by omega), if_pos this]; rfl
  rw [a0] at HC0
  clear hB a0
  go_enter Tryz.func24, Tryz.ntmps24
  go_wp2_with (first | (refine wpList_load_ps (by rfl) _ rfl _ rfl _ (HP.out) ?_) | (refine wpList_load_pb (by rfl) _ rfl _ rfl _ (HP.out) ?_))
  refine (HC0.out _).mono ?_
  rintro e w1 ⟨rfl, k1⟩
  have HK1 := Lib.hid (HK0.out.trans k1)
  have HP1 := Lib.hid (HP.out.kept k1)
  have ct := HP1.out.turn
  have cc := HP1.out.cas
  have ce := HP1.out.ep
  clear k1
  go_wp2
  go_ret
  exact ⟨by rw [HF.out]; rfl, HK1.out⟩
theorem rpw_t1 (p : Ps) (hB : Brd p.B) (a0 : wrongI p.B = 0) (h : 1 < p.t) (w : World) :
    Calls Tryz.prog 24 #[.agg (pl p).toArray] w fun e w' => e = .returned (.int .i64 (pwI p)) ∧ Kept w w' := by
  have HP := Lib.hid (PAt.new w hB.1)
  have HK0 := Lib.hid ((Kept.refl w).alloc (.cells (pl p).toArray 26))
  have HB := Lib.hid hB
  have HC0 := Lib.hid (rwrong_is p.B hB)
  have HF : Hid (pwI p = 5) := by
    have : withinB p = false := by rw [← Bool.not_eq_true, within_iff]; omega
    unfold pwI; rw [if_neg (by omega), if_pos this]; rfl
  have n0 : ¬ p.t < 0 := by omega
  rw [a0] at HC0
  clear hB a0
  go_enter Tryz.func24, Tryz.ntmps24
  go_wp2_with (first | (refine wpList_load_ps (by rfl) _ rfl _ rfl _ (HP.out) ?_) | (refine wpList_load_pb (by rfl) _ rfl _ rfl _ (HP.out) ?_))
  refine (HC0.out _).mono ?_
  rintro e w1 ⟨rfl, k1⟩
  have HK1 := Lib.hid (HK0.out.trans k1)
  have HP1 := Lib.hid (HP.out.kept k1)
  have ct := HP1.out.turn
  have cc := HP1.out.cas
  have ce := HP1.out.ep
  clear k1
  go_wp2
  go_ret
  exact ⟨by rw [HF.out]; rfl, HK1.out⟩
theorem rpw_c0 (p : Ps) (hB : Brd p.B) (a0 : wrongI p.B = 0) (n0 : ¬ p.t < 0) (n1 : ¬ 1 < p.t) (h : p.c < 0) (w : World) :
    Calls Tryz.prog 24 #[.agg (pl p).toArray] w fun e w' => e = .returned (.int .i64 (pwI p)) ∧ Kept w w' := by
  have HP := Lib.hid (PAt.new w hB.1)
  have HK0 := Lib.hid ((Kept.refl w).alloc (.cells (pl p).toArray 26))
  have HB := Lib.hid hB
  have HC0 := Lib.hid (rwrong_is p.B hB)
  have HF : Hid (pwI p = 5) := by
    have : withinB p = false := by rw [← Bool.not_eq_true, within_iff]; omega
    unfold pwI; rw [if_neg (by omega), if_pos this]; rfl
  rw [a0] at HC0
  clear hB a0
  go_enter Tryz.func24, Tryz.ntmps24
  go_wp2_with (first | (refine wpList_load_ps (by rfl) _ rfl _ rfl _ (HP.out) ?_) | (refine wpList_load_pb (by rfl) _ rfl _ rfl _ (HP.out) ?_))
  refine (HC0.out _).mono ?_
  rintro e w1 ⟨rfl, k1⟩
  have HK1 := Lib.hid (HK0.out.trans k1)
  have HP1 := Lib.hid (HP.out.kept k1)
  have ct := HP1.out.turn
  have cc := HP1.out.cas
  have ce := HP1.out.ep
  clear k1
  go_wp2
  go_ret
  exact ⟨by rw [HF.out]; rfl, HK1.out⟩
theorem rpw_c1 (p : Ps) (hB : Brd p.B) (a0 : wrongI p.B = 0) (n0 : ¬ p.t < 0) (n1 : ¬ 1 < p.t) (h : 15 < p.c) (w : World) :
    Calls Tryz.prog 24 #[.agg (pl p).toArray] w fun e w' => e = .returned (.int .i64 (pwI p)) ∧ Kept w w' := by
  have HP := Lib.hid (PAt.new w hB.1)
  have HK0 := Lib.hid ((Kept.refl w).alloc (.cells (pl p).toArray 26))
  have HB := Lib.hid hB
  have HC0 := Lib.hid (rwrong_is p.B hB)
  have HF : Hid (pwI p = 5) := by
    have : withinB p = false := by rw [← Bool.not_eq_true, within_iff]; omega
    unfold pwI; rw [if_neg (by omega), if_pos this]; rfl
  have n2 : ¬ p.c < 0 := by omega
  rw [a0] at HC0
  clear hB a0
  go_enter Tryz.func24, Tryz.ntmps24
  go_wp2_with (first | (refine wpList_load_ps (by rfl) _ rfl _ rfl _ (HP.out) ?_) | (refine wpList_load_pb (by rfl) _ rfl _ rfl _ (HP.out) ?_))
  refine (HC0.out _).mono ?_
  rintro e w1 ⟨rfl, k1⟩
  have HK1 := Lib.hid (HK0.out.trans k1)
  have HP1 := Lib.hid (HP.out.kept k1)
  have ct := HP1.out.turn
  have cc := HP1.out.cas
  have ce := HP1.out.ep
  clear k1
  go_wp2
  go_ret
  exact ⟨by rw [HF.out]; rfl, HK1.out⟩
theorem rpw_e0 (p : Ps) (hB : Brd p.B) (a0 : wrongI p.B = 0) (n0 : ¬ p.t < 0) (n1 : ¬ 1 < p.t) (n2 : ¬ p.c < 0) (n3 : ¬ 15 < p.c) (h : p.e < -1) (w : World) :
    Calls Tryz.prog 24 #[.agg (pl p).toArray] w fun e w' => e = .returned (.int .i64 (pwI p)) ∧ Kept w w' := by
  have HP := Lib.hid (PAt.new w hB.1)
  have HK0 := Lib.hid ((Kept.refl w).alloc (.cells (pl p).toArray 26))
  have HB := Lib.hid hB
  have HC0 := Lib.hid (rwrong_is p.B hB)
  have HF : Hid (pwI p = 5) := by
    have : withinB p = false := by rw [← Bool.not_eq_true, within_iff]; omega
    unfold pwI; rw [if_neg (by omega), if_pos this]; rfl
  rw [a0] at HC0
  clear hB a0
  go_enter Tryz.func24, Tryz.ntmps24
  go_wp2_with (first | (refine wpList_load_ps (by rfl) _ rfl _ rfl _ (HP.out) ?_) | (refine wpList_load_pb (by rfl) _ rfl _ rfl _ (HP.out) ?_))
  refine (HC0.out _).mono ?_
  rintro e w1 ⟨rfl, k1⟩
  have HK1 := Lib.hid (HK0.out.trans k1)
  have HP1 := Lib.hid (HP.out.kept k1)
  have ct := HP1.out.turn
  have cc := HP1.out.cas
  have ce := HP1.out.ep
  clear k1
  go_wp2
  go_ret
  exact ⟨by rw [HF.out]; rfl, HK1.out⟩
theorem rpw_e1 (p : Ps) (hB : Brd p.B) (a0 : wrongI p.B = 0) (n0 : ¬ p.t < 0) (n1 : ¬ 1 < p.t) (n2 : ¬ p.c < 0) (n3 : ¬ 15 < p.c) (h : 63 < p.e) (w : World) :
    Calls Tryz.prog 24 #[.agg (pl p).toArray] w fun e w' => e = .returned (.int .i64 (pwI p)) ∧ Kept w w' := by
  have HP := Lib.hid (PAt.new w hB.1)
  have HK0 := Lib.hid ((Kept.refl w).alloc (.cells (pl p).toArray 26))
  have HB := Lib.hid hB
  have HC0 := Lib.hid (rwrong_is p.B hB)
  have HF : Hid (pwI p = 5) := by
    have : withinB p = false := by rw [← Bool.not_eq_true, within_iff]; omega
    unfold pwI; rw [if_neg (by omega), if_pos this]; rfl
  have n4 : ¬ p.e < -1 := by omega
  rw [a0] at HC0
  clear hB a0
  go_enter Tryz.func24, Tryz.ntmps24
  go_wp2_with (first | (refine wpList_load_ps (by rfl) _ rfl _ rfl _ (HP.out) ?_) | (refine wpList_load_pb (by rfl) _ rfl _ rfl _ (HP.out) ?_))
  refine (HC0.out _).mono ?_
  rintro e w1 ⟨rfl, k1⟩
  have HK1 := Lib.hid (HK0.out.trans k1)
  have HP1 := Lib.hid (HP.out.kept k1)
  have ct := HP1.out.turn
  have cc := HP1.out.cas
  have ce := HP1.out.ep
  clear k1
  go_wp2
  go_ret
  exact ⟨by rw [HF.out]; rfl, HK1.out⟩
set_option maxRecDepth 100000 in
set_option maxHeartbeats 2000000 in
theorem rpw_far (p : Ps) (hB : Brd p.B) (a0 : wrongI p.B = 0) (a1 : withinB p = true) (ha : (farA (kingI p.B 0) (kingI p.B 1) == 1) = true) (w : World) :
    Calls Tryz.prog 24 #[.agg (pl p).toArray] w fun e w' => e = .returned (.int .i64 (pwI p)) ∧ Kept w w' := by
  have HP := Lib.hid (PAt.new w hB.1)
  have HK0 := Lib.hid ((Kept.refl w).alloc (.cells (pl p).toArray 26))
  have HB := Lib.hid hB
  have HC0 := Lib.hid (rwrong_is p.B hB)
  obtain ⟨t01, ⟨c0, c1⟩, e0, e1⟩ := (within_iff p).1 a1
  have hwr : IntKind.i64.wrap (1 - p.t) = 1 - p.t := by rcases t01 with h | h <;> rw [h] <;> decide
  have n0 : ¬ p.t < 0 := by omega
  have n1 : ¬ 1 < p.t := by omega
  have n2 : ¬ p.c < 0 := by omega
  have n3 : ¬ 15 < p.c := by omega
  have n4 : ¬ p.e < -1 := by omega
  have n5 : ¬ 63 < p.e := by omega
  have HKa := Lib.hid (rking_is p.B hB 0)
  have HKb := Lib.hid (rking_is p.B hB 1)
  have HFa := Lib.hid (rfar_any (kingI p.B 0) (kingI p.B 1))
  have HCk := Lib.hid (rcheck_is p.B hB (1 - p.t) (by omega))
  have HTo : Hid (touchB p = ((farA (kingI p.B 0) (kingI p.B 1) == 1) || checkB p.B (1 - p.t))) := by
    have : otherI p.t = 1 - p.t := by unfold otherI; split <;> first | omega | (split <;> omega)
    unfold touchB; rw [this]; rfl
  rw [ha] at HTo
  have HF : Hid (pwI p = 9) := by
    unfold pwI; rw [if_neg (by omega), if_neg (by rw [a1]; decide), if_pos (by rw [HTo.out]; rfl)]; rfl
  rw [a0] at HC0
  clear hB a0 a1 HTo 
  generalize farA (kingI p.B 0) (kingI p.B 1) = F at *
  generalize checkB p.B (1 - p.t) = cb at *
  generalize kingI p.B 0 = K0 at *
  generalize kingI p.B 1 = K1 at *
  go_enter Tryz.func24, Tryz.ntmps24
  go_wp2_with (first | (refine wpList_load_ps (by rfl) _ rfl _ rfl _ (HP.out) ?_) | (refine wpList_load_pb (by rfl) _ rfl _ rfl _ (HP.out) ?_))
  refine (HC0.out _).mono ?_
  rintro e w1 ⟨rfl, k1⟩
  have HK1 := Lib.hid (HK0.out.trans k1)
  have HP1 := Lib.hid (HP.out.kept k1)
  have ct := HP1.out.turn
  have cc := HP1.out.cas
  have ce := HP1.out.ep
  clear k1
  go_wp2
  refine wp_region_held_drew (S := Kept _) (by kernel_rfl) (Kept.refl _).drew (fun hHeld => ?_)
  refine rg_take (i := 0) (v := (.pointer (some ⟨w.heap.size, 0, none⟩))) (some 39) rfl rfl (by kernel_rfl) (by kernel_rfl) (by kernel_rfl) (fun _ _ _ h => h) (Or.inl ⟨by rfl, fun _ _ => by go_simp⟩) hHeld ?_
  simp only [Act.put, List.setIfInBounds_toArray, List.set_cons_zero, List.set_cons_succ]
  refine rg_take (i := 1) (some 40) rfl rfl (by kernel_rfl) (by kernel_rfl) (by kernel_rfl) (fun _ _ _ h => h) (take_load_pb (by rfl) _ rfl _ rfl p HB.out.1 (fun _ h => (HP1.out).kept h)) hHeld ?_
  simp only [Act.put, List.setIfInBounds_toArray, List.set_cons_zero, List.set_cons_succ]
  refine rg_take (i := 3) (v := (.pointer (some ⟨w.heap.size, 0, none⟩))) (some 42) rfl rfl (by kernel_rfl) (by kernel_rfl) (by kernel_rfl) (fun _ _ _ h => h) (Or.inl ⟨by rfl, fun _ _ => by go_simp⟩) hHeld ?_
  simp only [Act.put, List.setIfInBounds_toArray, List.set_cons_zero, List.set_cons_succ]
  refine rg_take (i := 4) (some 43) rfl rfl (by kernel_rfl) (by kernel_rfl) (by kernel_rfl) (fun _ _ _ h => h) (take_load_pb (by rfl) _ rfl _ rfl p HB.out.1 (fun _ h => (HP1.out).kept h)) hHeld ?_
  simp only [Act.put, List.setIfInBounds_toArray, List.set_cons_zero, List.set_cons_succ]
  refine wpAnyH_ready (rs := [2]) (by kernel_rfl) (by simp) ?_
  refine AllReadyH.cons rfl (fun K hK => ?_) AllReadyH.nil
  go_simp
  refine (HKa.out _).mono ?_
  rintro e x1 ⟨rfl, gx1⟩
  refine hK.out _ _ (hHeld.trans gx1) (fun _ => ?_)
  replace hHeld := hHeld.trans gx1
  clear hK K
  refine wpAnyH_ready (rs := [5]) (by kernel_rfl) (by simp) ?_
  refine AllReadyH.cons rfl (fun K hK => ?_) AllReadyH.nil
  go_simp
  refine (HKb.out _).mono ?_
  rintro e x2 ⟨rfl, gx2⟩
  refine hK.out _ _ (hHeld.trans gx2) (fun _ => ?_)
  replace hHeld := hHeld.trans gx2
  clear hK K
  refine wpAnyH_ready (rs := [6]) (by kernel_rfl) (by simp) ?_
  refine AllReadyH.cons rfl (fun K hK => ?_) AllReadyH.nil
  go_simp
  refine (HFa.out _).mono ?_
  rintro e x3 ⟨rfl, gx3⟩
  refine hK.out _ _ (hHeld.trans gx3) (fun _ => ?_)
  replace hHeld := hHeld.trans gx3
  clear hK K
  refine rg_take (i := 7) (v := (.bool true)) (some 46) rfl rfl (by kernel_rfl) (by kernel_rfl) (by kernel_rfl) (fun _ _ _ h => h) (Or.inl ⟨by rfl, fun _ _ => by go_simp⟩) hHeld ?_
  simp only [Act.put, List.setIfInBounds_toArray, List.set_cons_zero, List.set_cons_succ]
  refine rg_take (i := 8) (v := (.bool true)) (some 47) rfl rfl (by kernel_rfl) (by kernel_rfl) (by kernel_rfl) (fun _ _ _ h => h) (Or.inl ⟨by rfl, fun _ _ => by go_simp⟩) hHeld ?_
  simp only [Act.put, List.setIfInBounds_toArray, List.set_cons_zero, List.set_cons_succ]
  refine rg_take (i := 9) (some 48) rfl rfl (by kernel_rfl) (by kernel_rfl) (by kernel_rfl) (fun _ _ _ h => h) (Or.inr ⟨by rfl, rfl⟩) hHeld ?_
  simp only [Act.put, List.setIfInBounds_toArray, List.set_cons_zero, List.set_cons_succ]
  refine rg_take (i := 10) (some 49) rfl rfl (by kernel_rfl) (by kernel_rfl) (by kernel_rfl) (fun _ _ _ h => h) (Or.inr ⟨by rfl, rfl⟩) hHeld ?_
  simp only [Act.put, List.setIfInBounds_toArray, List.set_cons_zero, List.set_cons_succ]
  refine rg_take (i := 11) (some 50) rfl rfl (by kernel_rfl) (by kernel_rfl) (by kernel_rfl) (fun _ _ _ h => h) (Or.inr ⟨by rfl, rfl⟩) hHeld ?_
  simp only [Act.put, List.setIfInBounds_toArray, List.set_cons_zero, List.set_cons_succ]
  refine rg_take (i := 12) (some 51) rfl rfl (by kernel_rfl) (by kernel_rfl) (by kernel_rfl) (fun _ _ _ h => h) (Or.inr ⟨by rfl, rfl⟩) hHeld ?_
  simp only [Act.put, List.setIfInBounds_toArray, List.set_cons_zero, List.set_cons_succ]
  refine rg_take (i := 13) (some 52) rfl rfl (by kernel_rfl) (by kernel_rfl) (by kernel_rfl) (fun _ _ _ h => h) (Or.inr ⟨by rfl, rfl⟩) hHeld ?_
  simp only [Act.put, List.setIfInBounds_toArray, List.set_cons_zero, List.set_cons_succ]
  refine rg_take (i := 14) (some 53) rfl rfl (by kernel_rfl) (by kernel_rfl) (by kernel_rfl) (fun _ _ _ h => h) (Or.inr ⟨by rfl, rfl⟩) hHeld ?_
  simp only [Act.put, List.setIfInBounds_toArray, List.set_cons_zero, List.set_cons_succ]
  refine rg_take (i := 15) (v := (.bool true)) (some 54) rfl rfl (by kernel_rfl) (by kernel_rfl) (by kernel_rfl) (fun _ _ _ h => h) (Or.inl ⟨by rfl, fun _ _ => by go_simp⟩) hHeld ?_
  simp only [Act.put, List.setIfInBounds_toArray, List.set_cons_zero, List.set_cons_succ]
  refine wpAnyH_done (by kernel_rfl) ?_ _
  have HA := Lib.hid hHeld
  clear hHeld ct cc ce
  go_wp2
  go_ret
  exact ⟨by rw [HF.out]; rfl, HK1.out.trans HA.out⟩
set_option maxRecDepth 100000 in
set_option maxHeartbeats 2000000 in
theorem rpw_chk (p : Ps) (hB : Brd p.B) (a0 : wrongI p.B = 0) (a1 : withinB p = true) (ha : (farA (kingI p.B 0) (kingI p.B 1) == 1) = false) (hb : checkB p.B (1 - p.t) = true) (w : World) :
    Calls Tryz.prog 24 #[.agg (pl p).toArray] w fun e w' => e = .returned (.int .i64 (pwI p)) ∧ Kept w w' := by
  have HP := Lib.hid (PAt.new w hB.1)
  have HK0 := Lib.hid ((Kept.refl w).alloc (.cells (pl p).toArray 26))
  have HB := Lib.hid hB
  have HC0 := Lib.hid (rwrong_is p.B hB)
  obtain ⟨t01, ⟨c0, c1⟩, e0, e1⟩ := (within_iff p).1 a1
  have hwr : IntKind.i64.wrap (1 - p.t) = 1 - p.t := by rcases t01 with h | h <;> rw [h] <;> decide
  have n0 : ¬ p.t < 0 := by omega
  have n1 : ¬ 1 < p.t := by omega
  have n2 : ¬ p.c < 0 := by omega
  have n3 : ¬ 15 < p.c := by omega
  have n4 : ¬ p.e < -1 := by omega
  have n5 : ¬ 63 < p.e := by omega
  have HKa := Lib.hid (rking_is p.B hB 0)
  have HKb := Lib.hid (rking_is p.B hB 1)
  have HFa := Lib.hid (rfar_any (kingI p.B 0) (kingI p.B 1))
  have HCk := Lib.hid (rcheck_is p.B hB (1 - p.t) (by omega))
  have HTo : Hid (touchB p = ((farA (kingI p.B 0) (kingI p.B 1) == 1) || checkB p.B (1 - p.t))) := by
    have : otherI p.t = 1 - p.t := by unfold otherI; split <;> first | omega | (split <;> omega)
    unfold touchB; rw [this]; rfl
  rw [ha, hb] at HTo
  have HF : Hid (pwI p = 9) := by
    unfold pwI; rw [if_neg (by omega), if_neg (by rw [a1]; decide), if_pos (by rw [HTo.out]; rfl)]; rfl
  rw [a0] at HC0
  rw [hb] at HCk
  clear hB a0 a1 HTo hb 
  generalize farA (kingI p.B 0) (kingI p.B 1) = F at *
  generalize kingI p.B 0 = K0 at *
  generalize kingI p.B 1 = K1 at *
  go_enter Tryz.func24, Tryz.ntmps24
  go_wp2_with (first | (refine wpList_load_ps (by rfl) _ rfl _ rfl _ (HP.out) ?_) | (refine wpList_load_pb (by rfl) _ rfl _ rfl _ (HP.out) ?_))
  refine (HC0.out _).mono ?_
  rintro e w1 ⟨rfl, k1⟩
  have HK1 := Lib.hid (HK0.out.trans k1)
  have HP1 := Lib.hid (HP.out.kept k1)
  have ct := HP1.out.turn
  have cc := HP1.out.cas
  have ce := HP1.out.ep
  clear k1
  go_wp2
  refine wp_region_held_drew (S := Kept _) (by kernel_rfl) (Kept.refl _).drew (fun hHeld => ?_)
  refine rg_take (i := 0) (v := (.pointer (some ⟨w.heap.size, 0, none⟩))) (some 39) rfl rfl (by kernel_rfl) (by kernel_rfl) (by kernel_rfl) (fun _ _ _ h => h) (Or.inl ⟨by rfl, fun _ _ => by go_simp⟩) hHeld ?_
  simp only [Act.put, List.setIfInBounds_toArray, List.set_cons_zero, List.set_cons_succ]
  refine rg_take (i := 1) (some 40) rfl rfl (by kernel_rfl) (by kernel_rfl) (by kernel_rfl) (fun _ _ _ h => h) (take_load_pb (by rfl) _ rfl _ rfl p HB.out.1 (fun _ h => (HP1.out).kept h)) hHeld ?_
  simp only [Act.put, List.setIfInBounds_toArray, List.set_cons_zero, List.set_cons_succ]
  refine rg_take (i := 3) (v := (.pointer (some ⟨w.heap.size, 0, none⟩))) (some 42) rfl rfl (by kernel_rfl) (by kernel_rfl) (by kernel_rfl) (fun _ _ _ h => h) (Or.inl ⟨by rfl, fun _ _ => by go_simp⟩) hHeld ?_
  simp only [Act.put, List.setIfInBounds_toArray, List.set_cons_zero, List.set_cons_succ]
  refine rg_take (i := 4) (some 43) rfl rfl (by kernel_rfl) (by kernel_rfl) (by kernel_rfl) (fun _ _ _ h => h) (take_load_pb (by rfl) _ rfl _ rfl p HB.out.1 (fun _ h => (HP1.out).kept h)) hHeld ?_
  simp only [Act.put, List.setIfInBounds_toArray, List.set_cons_zero, List.set_cons_succ]
  refine wpAnyH_ready (rs := [2]) (by kernel_rfl) (by simp) ?_
  refine AllReadyH.cons rfl (fun K hK => ?_) AllReadyH.nil
  go_simp
  refine (HKa.out _).mono ?_
  rintro e x1 ⟨rfl, gx1⟩
  refine hK.out _ _ (hHeld.trans gx1) (fun _ => ?_)
  replace hHeld := hHeld.trans gx1
  clear hK K
  refine wpAnyH_ready (rs := [5]) (by kernel_rfl) (by simp) ?_
  refine AllReadyH.cons rfl (fun K hK => ?_) AllReadyH.nil
  go_simp
  refine (HKb.out _).mono ?_
  rintro e x2 ⟨rfl, gx2⟩
  refine hK.out _ _ (hHeld.trans gx2) (fun _ => ?_)
  replace hHeld := hHeld.trans gx2
  clear hK K
  refine wpAnyH_ready (rs := [6]) (by kernel_rfl) (by simp) ?_
  refine AllReadyH.cons rfl (fun K hK => ?_) AllReadyH.nil
  go_simp
  refine (HFa.out _).mono ?_
  rintro e x3 ⟨rfl, gx3⟩
  refine hK.out _ _ (hHeld.trans gx3) (fun _ => ?_)
  replace hHeld := hHeld.trans gx3
  clear hK K
  refine rg_take (i := 7) (v := (.bool false)) (some 46) rfl rfl (by kernel_rfl) (by kernel_rfl) (by kernel_rfl) (fun _ _ _ h => h) (Or.inl ⟨by rfl, fun _ _ => by go_simp⟩) hHeld ?_
  simp only [Act.put, List.setIfInBounds_toArray, List.set_cons_zero, List.set_cons_succ]
  refine rg_take (i := 8) (v := (.bool false)) (some 47) rfl rfl (by kernel_rfl) (by kernel_rfl) (by kernel_rfl) (fun _ _ _ h => h) (Or.inl ⟨by rfl, fun _ _ => by go_simp⟩) hHeld ?_
  simp only [Act.put, List.setIfInBounds_toArray, List.set_cons_zero, List.set_cons_succ]
  refine rg_take (i := 9) (v := (.pointer (some ⟨w.heap.size, 0, none⟩))) (some 48) rfl rfl (by kernel_rfl) (by kernel_rfl) (by kernel_rfl) (fun _ _ _ h => h) (Or.inl ⟨by rfl, fun _ _ => by go_simp⟩) hHeld ?_
  simp only [Act.put, List.setIfInBounds_toArray, List.set_cons_zero, List.set_cons_succ]
  refine rg_take (i := 10) (some 49) rfl rfl (by kernel_rfl) (by kernel_rfl) (by kernel_rfl) (fun _ _ _ h => h) (take_load_pb (by rfl) _ rfl _ rfl p HB.out.1 (fun _ h => (HP1.out).kept h)) hHeld ?_
  simp only [Act.put, List.setIfInBounds_toArray, List.set_cons_zero, List.set_cons_succ]
  refine rg_take (i := 11) (v := (.pointer (some ⟨w.heap.size, 64, none⟩))) (some 50) rfl rfl (by kernel_rfl) (by kernel_rfl) (by kernel_rfl) (fun _ _ _ h => h) (Or.inl ⟨by rfl, fun _ _ => by go_simp⟩) hHeld ?_
  simp only [Act.put, List.setIfInBounds_toArray, List.set_cons_zero, List.set_cons_succ]
  refine rg_take (i := 12) (v := (.int .i64 p.t)) (some 51) rfl rfl (by kernel_rfl) (by kernel_rfl) (by kernel_rfl) (fun _ _ _ h => h) (Or.inl ⟨by rfl, fun w' h => by have h' := kept_cell h (HP1.out.turn); go_simp⟩) hHeld ?_
  simp only [Act.put, List.setIfInBounds_toArray, List.set_cons_zero, List.set_cons_succ]
  refine rg_take (i := 13) (v := (.int .i64 (1 - p.t))) (some 52) rfl rfl (by kernel_rfl) (by kernel_rfl) (by kernel_rfl) (fun _ _ _ h => h) (Or.inl ⟨by rfl, fun _ _ => by go_simp⟩) hHeld ?_
  simp only [Act.put, List.setIfInBounds_toArray, List.set_cons_zero, List.set_cons_succ]
  refine wpAnyH_ready (rs := [14]) (by kernel_rfl) (by simp) ?_
  refine AllReadyH.cons rfl (fun K hK => ?_) AllReadyH.nil
  go_simp
  refine (HCk.out _).mono ?_
  rintro e x4 ⟨rfl, gx4⟩
  refine hK.out _ _ (hHeld.trans gx4) (fun _ => ?_)
  replace hHeld := hHeld.trans gx4
  clear hK K
  refine rg_take (i := 15) (v := (.bool true)) (some 54) rfl rfl (by kernel_rfl) (by kernel_rfl) (by kernel_rfl) (fun _ _ _ h => h) (Or.inl ⟨by rfl, fun _ _ => by go_simp⟩) hHeld ?_
  simp only [Act.put, List.setIfInBounds_toArray, List.set_cons_zero, List.set_cons_succ]
  refine wpAnyH_done (by kernel_rfl) ?_ _
  have HA := Lib.hid hHeld
  clear hHeld ct cc ce
  go_wp2
  go_ret
  exact ⟨by rw [HF.out]; rfl, HK1.out.trans HA.out⟩
/-- The rights, one behind the other. -/
def rg (k : Nat) : Int := [1, 2, 4, 8, 16].getD k 0
theorem rg_at {k : Nat} (hk : k < 4) : rg k = hR k ∧ 1 ≤ rg k ∧ rg k ≤ 8 ∧ 2 * rg k = rg (k + 1) := by
  have : k = 0 ∨ k = 1 ∨ k = 2 ∨ k = 3 := by omega
  rcases this with rfl | rfl | rfl | rfl <;> decide
theorem rg_end {k : Nat} (hk : k ≤ 4) (h : ¬ k < 4) : ¬ rg k ≤ 8 := by
  obtain rfl : k = 4 := by omega
  decide
set_option maxRecDepth 100000 in
set_option maxHeartbeats 4000000 in
theorem rpw_rest (p : Ps) (hB : Brd p.B) (a0 : wrongI p.B = 0) (a1 : withinB p = true) (a2 : touchB p = false) (w : World) :
    Calls Tryz.prog 24 #[.agg (pl p).toArray] w fun e w' => e = .returned (.int .i64 (pwI p)) ∧ Kept w w' := by
  have HP := Lib.hid (PAt.new w hB.1)
  have HK0 := Lib.hid ((Kept.refl w).alloc (.cells (pl p).toArray 26))
  have HB := Lib.hid hB
  have HC0 := Lib.hid (rwrong_is p.B hB)
  obtain ⟨t01, ⟨c0, c1⟩, e0, e1⟩ := (within_iff p).1 a1
  have hwr : IntKind.i64.wrap (1 - p.t) = 1 - p.t := by rcases t01 with h | h <;> rw [h] <;> decide
  have n0 : ¬ p.t < 0 := by omega
  have n1 : ¬ 1 < p.t := by omega
  have n2 : ¬ p.c < 0 := by omega
  have n3 : ¬ 15 < p.c := by omega
  have n4 : ¬ p.e < -1 := by omega
  have n5 : ¬ 63 < p.e := by omega
  have HKa := Lib.hid (rking_is p.B hB 0)
  have HKb := Lib.hid (rking_is p.B hB 1)
  have HFa := Lib.hid (rfar_any (kingI p.B 0) (kingI p.B 1))
  have HCk := Lib.hid (rcheck_is p.B hB (1 - p.t) (by omega))
  have HTo : Hid (touchB p = ((farA (kingI p.B 0) (kingI p.B 1) == 1) || checkB p.B (1 - p.t))) := by
    have : otherI p.t = 1 - p.t := by unfold otherI; split <;> first | omega | (split <;> omega)
    unfold touchB; rw [this]; rfl
  rw [a2] at HTo
  obtain ⟨ha, hb⟩ := Bool.or_eq_false_iff.1 HTo.out.symm
  have HF10 : Hid (casB p = false → pwI p = 10) := by
    show _ → _
    intro h; unfold pwI; rw [if_neg (by omega), if_neg (by rw [a1]; decide), if_neg (by rw [a2]; decide), if_pos h]
  have HF11 : Hid (casB p = true → 0 ≤ p.e → passI p < 0 → pwI p = 11) := by
    show _ → _
    intro h h1 h2
    have : epB p = false := by
      unfold epB passB
      rw [show decide (0 ≤ passI p) = false by rw [decide_eq_false_iff_not]; omega, show (p.e == -1) = false by rw [beq_eq_false_iff_ne]; omega]
      rfl
    unfold pwI; rw [if_neg (by omega), if_neg (by rw [a1]; decide), if_neg (by rw [a2]; decide), if_neg (by rw [h]; decide), if_pos this]
  have HF0 : Hid (casB p = true → (p.e < 0 ∨ 0 ≤ passI p) → pwI p = 0) := by
    show _ → _
    intro h h1
    have : epB p = true := by
      unfold epB passB
      rw [Bool.or_eq_true, decide_eq_true_iff, beq_iff_eq]
      omega
    unfold pwI; rw [if_neg (by omega), if_neg (by rw [a1]; decide), if_neg (by rw [a2]; decide), if_neg (by rw [h]; decide), if_neg (by rw [this]; decide)]
  have HPs := Lib.hid (rpassed_is p hB)
  have HBk := Lib.hid (rbacked_is p.B hB)
  have HHas := Lib.hid (fun r w h1 h2 => rhas_is p.c r w c0 c1 h1 h2)
  rw [a0] at HC0
  rw [hb] at HCk
  clear hB a0 a1 a2 HTo hb
  generalize farA (kingI p.B 0) (kingI p.B 1) = F at *
  generalize kingI p.B 0 = K0 at *
  generalize kingI p.B 1 = K1 at *
  go_enter Tryz.func24, Tryz.ntmps24
  go_wp2_with (first | (refine wpList_load_ps (by rfl) _ rfl _ rfl _ (HP.out) ?_) | (refine wpList_load_pb (by rfl) _ rfl _ rfl _ (HP.out) ?_))
  refine (HC0.out _).mono ?_
  rintro e w1 ⟨rfl, k1⟩
  have HK1 := Lib.hid (HK0.out.trans k1)
  have HP1 := Lib.hid (HP.out.kept k1)
  have ct := HP1.out.turn
  have cc := HP1.out.cas
  have ce := HP1.out.ep
  clear k1
  go_wp2
  refine wp_region_held_drew (S := Kept _) (by kernel_rfl) (Kept.refl _).drew (fun hHeld => ?_)
  refine rg_take (i := 0) (v := (.pointer (some ⟨w.heap.size, 0, none⟩))) (some 39) rfl rfl (by kernel_rfl) (by kernel_rfl) (by kernel_rfl) (fun _ _ _ h => h) (Or.inl ⟨by rfl, fun _ _ => by go_simp⟩) hHeld ?_
  simp only [Act.put, List.setIfInBounds_toArray, List.set_cons_zero, List.set_cons_succ]
  refine rg_take (i := 1) (some 40) rfl rfl (by kernel_rfl) (by kernel_rfl) (by kernel_rfl) (fun _ _ _ h => h) (take_load_pb (by rfl) _ rfl _ rfl p HB.out.1 (fun _ h => (HP1.out).kept h)) hHeld ?_
  simp only [Act.put, List.setIfInBounds_toArray, List.set_cons_zero, List.set_cons_succ]
  refine rg_take (i := 3) (v := (.pointer (some ⟨w.heap.size, 0, none⟩))) (some 42) rfl rfl (by kernel_rfl) (by kernel_rfl) (by kernel_rfl) (fun _ _ _ h => h) (Or.inl ⟨by rfl, fun _ _ => by go_simp⟩) hHeld ?_
  simp only [Act.put, List.setIfInBounds_toArray, List.set_cons_zero, List.set_cons_succ]
  refine rg_take (i := 4) (some 43) rfl rfl (by kernel_rfl) (by kernel_rfl) (by kernel_rfl) (fun _ _ _ h => h) (take_load_pb (by rfl) _ rfl _ rfl p HB.out.1 (fun _ h => (HP1.out).kept h)) hHeld ?_
  simp only [Act.put, List.setIfInBounds_toArray, List.set_cons_zero, List.set_cons_succ]
  refine wpAnyH_ready (rs := [2]) (by kernel_rfl) (by simp) ?_
  refine AllReadyH.cons rfl (fun K hK => ?_) AllReadyH.nil
  go_simp
  refine (HKa.out _).mono ?_
  rintro e x1 ⟨rfl, gx1⟩
  refine hK.out _ _ (hHeld.trans gx1) (fun _ => ?_)
  replace hHeld := hHeld.trans gx1
  clear hK K
  refine wpAnyH_ready (rs := [5]) (by kernel_rfl) (by simp) ?_
  refine AllReadyH.cons rfl (fun K hK => ?_) AllReadyH.nil
  go_simp
  refine (HKb.out _).mono ?_
  rintro e x2 ⟨rfl, gx2⟩
  refine hK.out _ _ (hHeld.trans gx2) (fun _ => ?_)
  replace hHeld := hHeld.trans gx2
  clear hK K
  refine wpAnyH_ready (rs := [6]) (by kernel_rfl) (by simp) ?_
  refine AllReadyH.cons rfl (fun K hK => ?_) AllReadyH.nil
  go_simp
  refine (HFa.out _).mono ?_
  rintro e x3 ⟨rfl, gx3⟩
  refine hK.out _ _ (hHeld.trans gx3) (fun _ => ?_)
  replace hHeld := hHeld.trans gx3
  clear hK K
  refine rg_take (i := 7) (v := (.bool false)) (some 46) rfl rfl (by kernel_rfl) (by kernel_rfl) (by kernel_rfl) (fun _ _ _ h => h) (Or.inl ⟨by rfl, fun _ _ => by go_simp⟩) hHeld ?_
  simp only [Act.put, List.setIfInBounds_toArray, List.set_cons_zero, List.set_cons_succ]
  refine rg_take (i := 8) (v := (.bool false)) (some 47) rfl rfl (by kernel_rfl) (by kernel_rfl) (by kernel_rfl) (fun _ _ _ h => h) (Or.inl ⟨by rfl, fun _ _ => by go_simp⟩) hHeld ?_
  simp only [Act.put, List.setIfInBounds_toArray, List.set_cons_zero, List.set_cons_succ]
  refine rg_take (i := 9) (v := (.pointer (some ⟨w.heap.size, 0, none⟩))) (some 48) rfl rfl (by kernel_rfl) (by kernel_rfl) (by kernel_rfl) (fun _ _ _ h => h) (Or.inl ⟨by rfl, fun _ _ => by go_simp⟩) hHeld ?_
  simp only [Act.put, List.setIfInBounds_toArray, List.set_cons_zero, List.set_cons_succ]
  refine rg_take (i := 10) (some 49) rfl rfl (by kernel_rfl) (by kernel_rfl) (by kernel_rfl) (fun _ _ _ h => h) (take_load_pb (by rfl) _ rfl _ rfl p HB.out.1 (fun _ h => (HP1.out).kept h)) hHeld ?_
  simp only [Act.put, List.setIfInBounds_toArray, List.set_cons_zero, List.set_cons_succ]
  refine rg_take (i := 11) (v := (.pointer (some ⟨w.heap.size, 64, none⟩))) (some 50) rfl rfl (by kernel_rfl) (by kernel_rfl) (by kernel_rfl) (fun _ _ _ h => h) (Or.inl ⟨by rfl, fun _ _ => by go_simp⟩) hHeld ?_
  simp only [Act.put, List.setIfInBounds_toArray, List.set_cons_zero, List.set_cons_succ]
  refine rg_take (i := 12) (v := (.int .i64 p.t)) (some 51) rfl rfl (by kernel_rfl) (by kernel_rfl) (by kernel_rfl) (fun _ _ _ h => h) (Or.inl ⟨by rfl, fun w' h => by have h' := kept_cell h (HP1.out.turn); go_simp⟩) hHeld ?_
  simp only [Act.put, List.setIfInBounds_toArray, List.set_cons_zero, List.set_cons_succ]
  refine rg_take (i := 13) (v := (.int .i64 (1 - p.t))) (some 52) rfl rfl (by kernel_rfl) (by kernel_rfl) (by kernel_rfl) (fun _ _ _ h => h) (Or.inl ⟨by rfl, fun _ _ => by go_simp⟩) hHeld ?_
  simp only [Act.put, List.setIfInBounds_toArray, List.set_cons_zero, List.set_cons_succ]
  refine wpAnyH_ready (rs := [14]) (by kernel_rfl) (by simp) ?_
  refine AllReadyH.cons rfl (fun K hK => ?_) AllReadyH.nil
  go_simp
  refine (HCk.out _).mono ?_
  rintro e x4 ⟨rfl, gx4⟩
  refine hK.out _ _ (hHeld.trans gx4) (fun _ => ?_)
  replace hHeld := hHeld.trans gx4
  clear hK K
  refine rg_take (i := 15) (v := (.bool false)) (some 54) rfl rfl (by kernel_rfl) (by kernel_rfl) (by kernel_rfl) (fun _ _ _ h => h) (Or.inl ⟨by rfl, fun _ _ => by go_simp⟩) hHeld ?_
  simp only [Act.put, List.setIfInBounds_toArray, List.set_cons_zero, List.set_cons_succ]
  refine wpAnyH_done (by kernel_rfl) ?_ _
  have HK2 := Lib.hid (HK1.out.trans hHeld)
  have HP2 := Lib.hid (HP1.out.kept hHeld)
  clear hHeld ct cc ce gx1 gx2 gx3 gx4
  go_wp2
  go_loopw [4] (fun t4 wr => ∃ k : Nat, k ≤ 4 ∧ t4 = .int .i64 (rg k) ∧ (∀ j, j < k → okC p j = true) ∧ Kept x4 wr) (fun t4 _ => (16 - intOf t4).toNat)
  case atStart => exact ⟨0, by omega, rfl, fun j hj => by omega, Kept.refl _⟩
  case round =>
    obtain ⟨k, hk, rfl, hno, hK⟩ := hrel
    have HNo := Lib.hid hno
    have HK := Lib.hid (HK2.out.trans hK)
    have HKr := Lib.hid hK
    have HPr := Lib.hid (HP2.out.kept hK)
    clear hno hK
    by_cases hlt : k < 4
    · obtain ⟨r1, r2, r3, r4⟩ := rg_at hlt
      have HN := Lib.hid r4
      have HOk : Hid (okC p k = (!rgtB p.c (rg k) || backB p.B (rg k))) := by rw [r1]; rfl
      have HH := Lib.hid (fun w => HHas.out (rg k) w r2 r3)
      have HBr := Lib.hid (HBk.out (rg k))
      have cc := HPr.out.cas
      clear r1 r4
      generalize backB p.B (rg k) = bb at *
      generalize hrr : rg k = r at *
      have HRR := Lib.hid hrr
      clear hrr
      cases hh : rgtB p.c r
      · rw [hh] at HOk HH
        clear hh
        go_wp2_with fail
        refine (HH.out _).mono ?_
        rintro e w3 ⟨rfl, k3⟩
        have HK3 := Lib.hid (HKr.out.trans k3)
        clear k3 cc
        go_wp2
        go_roundw
        case rel => exact ⟨k + 1, by omega, by rw [← HN.out], fun j hj => by rcases Nat.lt_succ_iff_lt_or_eq.1 hj with h | h; exact HNo.out j h; rw [h, HOk.out]; rfl, HK3.out⟩
        case measure => simp [intOf]; omega
      · rw [hh] at HOk HH
        clear hh
        cases bb
        · have HF := Lib.hid (HF10.out (cas_no hlt HOk.out))
          go_wp2_with fail
          refine (HH.out _).mono ?_
          rintro e w3 ⟨rfl, k3⟩
          have HK3 := Lib.hid (HK.out.trans k3)
          have HP3 := Lib.hid (HPr.out.kept k3)
          clear k3 cc
          go_wp2_with (first | (refine wpList_load_ps (by rfl) _ rfl _ rfl _ (HP3.out) ?_) | (refine wpList_load_pb (by rfl) _ rfl _ rfl _ (HP3.out) ?_))
          refine (HBr.out _).mono ?_
          rintro e w4 ⟨rfl, k4⟩
          have HK4 := Lib.hid (HK3.out.trans k4)
          clear k4
          go_wp2
          go_ret
          exact ⟨by rw [HF.out]; rfl, HK4.out⟩
        · skip
          go_wp2_with fail
          refine (HH.out _).mono ?_
          rintro e w3 ⟨rfl, k3⟩
          have HK3 := Lib.hid (HKr.out.trans k3)
          have HP3 := Lib.hid (HPr.out.kept k3)
          clear k3 cc
          go_wp2_with (first | (refine wpList_load_ps (by rfl) _ rfl _ rfl _ (HP3.out) ?_) | (refine wpList_load_pb (by rfl) _ rfl _ rfl _ (HP3.out) ?_))
          refine (HBr.out _).mono ?_
          rintro e w4 ⟨rfl, k4⟩
          have HK4 := Lib.hid (HK3.out.trans k4)
          clear k4
          go_wp2
          go_roundw
          case rel => exact ⟨k + 1, by omega, by rw [← HN.out], fun j hj => by rcases Nat.lt_succ_iff_lt_or_eq.1 hj with h | h; exact HNo.out j h; rw [h, HOk.out]; rfl, HK4.out⟩
          case measure => simp [intOf]; omega
    · have HCas := Lib.hid (cas_yes (p := p) (fun j hj => HNo.out j (by omega)))
      have hend := rg_end hk hlt
      have ce := HPr.out.ep
      generalize rg k = r at *
      by_cases he : 0 ≤ p.e
      · by_cases hp : passI p < 0
        · have HF := Lib.hid (HF11.out HCas.out he hp)
          generalize passI p = ps at *
          go_wp2_with (first | (refine wpList_load_ps (by rfl) _ rfl _ rfl _ (HPr.out) ?_) | (refine wpList_load_pb (by rfl) _ rfl _ rfl _ (HPr.out) ?_))
          refine (HPs.out _).mono ?_
          rintro e w3 ⟨rfl, k3⟩
          have HK3 := Lib.hid (HK.out.trans k3)
          clear k3 ce
          go_wp2
          go_ret
          exact ⟨by rw [HF.out]; rfl, HK3.out⟩
        · have HF := Lib.hid (HF0.out HCas.out (by omega))
          have hp' : ¬ passI p < 0 := hp
          generalize passI p = ps at *
          go_wp2_with (first | (refine wpList_load_ps (by rfl) _ rfl _ rfl _ (HPr.out) ?_) | (refine wpList_load_pb (by rfl) _ rfl _ rfl _ (HPr.out) ?_))
          refine (HPs.out _).mono ?_
          rintro e w3 ⟨rfl, k3⟩
          have HK3 := Lib.hid (HK.out.trans k3)
          clear k3 ce
          go_wp2
          go_ret
          exact ⟨by rw [HF.out]; rfl, HK3.out⟩
      · have HF := Lib.hid (HF0.out HCas.out (by omega))
        go_wp2
        go_ret
        exact ⟨by rw [HF.out]; rfl, HK.out⟩
theorem rpwrong_is (p : Ps) (hB : Brd p.B) (w : World) :
    Calls Tryz.prog 24 #[.agg (pl p).toArray] w fun e w' => e = .returned (.int .i64 (pwI p)) ∧ Kept w w' := by
  by_cases a0 : wrongI p.B = 0
  · cases a1 : withinB p
    · have := mt (within_iff p).2 (by rw [a1]; decide)
      by_cases n0 : p.t < 0
      · exact rpw_t0 p hB a0 n0 w
      · by_cases n1 : 1 < p.t
        · exact rpw_t1 p hB a0 n1 w
        · by_cases n2 : p.c < 0
          · exact rpw_c0 p hB a0 n0 n1 n2 w
          · by_cases n3 : 15 < p.c
            · exact rpw_c1 p hB a0 n0 n1 n3 w
            · by_cases n4 : p.e < -1
              · exact rpw_e0 p hB a0 n0 n1 n2 n3 n4 w
              · exact rpw_e1 p hB a0 n0 n1 n2 n3 (by omega) w
    · cases a2 : touchB p
      · exact rpw_rest p hB a0 a1 a2 w
      · obtain ⟨t01, _⟩ := (within_iff p).1 a1
        have ho : otherI p.t = 1 - p.t := by unfold otherI; split <;> first | omega | (split <;> omega)
        unfold touchB at a2
        rw [ho] at a2
        cases ha : (farA (kingI p.B 0) (kingI p.B 1) == 1)
        · rw [ha, Bool.false_or] at a2
          exact rpw_chk p hB a0 a1 ha a2 w
        · exact rpw_far p hB a0 a1 ha w
  · exact rpw_board p hB a0 w
end Go.Proofs.YtgcippicdhaaeaaGreatDoor
namespace Go.Proofs.YtgcippicdhaaeaaGreatDoor
open Go.RowKit
set_option linter.unusedVariables false
set_option linter.unusedSimpArgs false
set_option maxRecDepth 100000

theorem rrightP_is (p : Ps) (hB : Brd p.B) (w : World) : Calls Tryz.prog 11 #[.agg (pl p).toArray] w fun e w' => e = .returned (.bool (pwI p == 0)) ∧ Kept w w' := by
  have HP := Lib.hid (PAt.new w hB.1)
  have HK0 := Lib.hid ((Kept.refl w).alloc (.cells (pl p).toArray 26))
  have HW := Lib.hid (fun w => rpwrong_is p hB w)
  generalize pwI p = x at *
  clear hB
  go_enter Tryz.func11, Tryz.ntmps11
  go_wp2_with (first | (refine wpList_load_ps (by rfl) _ rfl _ rfl _ (HP.out) ?_) | (refine wpList_load_pb (by rfl) _ rfl _ rfl _ (HP.out) ?_))
  refine (HW.out _).mono ?_
  rintro e w1 ⟨rfl, k1⟩
  have HK1 := Lib.hid (HK0.out.trans k1)
  clear k1
  go_wp2
  go_ret
  exact ⟨rfl, HK1.out⟩
theorem Fm.pf {p : Ps} {m : Mv} {f t : Nat} (h : Fm p m f t) (hk : kindI (p.B.getD f 0) = 1) : Pf p m f t := ⟨h.hf, h.ht, ⟨h.brd, h.right, h.f1, h.own, hk⟩, h.t1⟩
end Go.Proofs.YtgcippicdhaaeaaGreatDoor
