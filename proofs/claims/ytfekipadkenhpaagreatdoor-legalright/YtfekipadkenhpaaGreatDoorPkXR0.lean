/- LeB · LeO: my texts, in their order. -/
import Derived.Test.YtfekipadkenhpaaGreatDoorPkXMPRFT0
import Derived.Test.YtfekipadkenhpaaGreatDoorPkXMRT0
import Derived.Test.YtfekipadkenhpaaGreatDoorPkXPR0
import Derived.Test.YtfekipadkenhpaaGreatDoorPkA
import Derived.Test.YtfekipadkenhpaaGreatDoorPkB
import Derived.Test.YtfekipadkenhpaaGreatDoorPkC
import Derived.Test.YtfekipadkenhpaaGreatDoorPkD
import Derived.Test.YtfekipadkenhpaaGreatDoorPkE
import Derived.Test.YtfekipadkenhpaaGreatDoorPkF
import Derived.Test.YtfekipadkenhpaaGreatDoorPkGa
import Derived.Test.YtfekipadkenhpaaGreatDoorPkGb
import Derived.Test.YtfekipadkenhpaaGreatDoorPkGc
import Derived.Test.YtfekipadkenhpaaGreatDoorPkGd
import Derived.Test.YtfekipadkenhpaaGreatDoorPkGe
import Derived.Test.YtfekipadkenhpaaGreatDoorPkGf
import Derived.Test.YtfekipadkenhpaaGreatDoorPkGg
import Derived.Test.YtfekipadkenhpaaGreatDoorPkGh
import Derived.Test.YtfekipadkenhpaaGreatDoorPkGj
import Derived.Test.YtfekipadkenhpaaGreatDoorPkH
import Derived.Test.YtfekipadkenhpaaGreatDoorPkI
import Derived.Test.YtfekipadkenhpaaGreatDoorPkJ
import Derived.Test.YtfekipadkenhpaaGreatDoorPkK
import Derived.Test.YtfekipadkenhpaaGreatDoorPkL
import Derived.Test.YtfekipadkenhpaaGreatDoorPkLa
import Derived.Test.YtfekipadkenhpaaGreatDoorPkLd
import Derived.Test.YtfekipadkenhpaaGreatDoorPkLe
import Derived.Test.YtfekipadkenhpaaGreatDoorPkLf
import Derived.Test.YtfekipadkenhpaaGreatDoorPkLg
import Derived.Test.YtfekipadkenhpaaGreatDoorPkLh
import Derived.Test.YtfekipadkenhpaaGreatDoorPkLk
import Derived.Test.YtfekipadkenhpaaGreatDoorPkLw
import Derived.Test.YtfekipadkenhpaaGreatDoorPkM
import Derived.Test.YtfekipadkenhpaaGreatDoorPkQ
import Derived.Test.YtfekipadkenhpaaGreatDoorPkR
namespace Go.Proofs.YtfekipadkenhpaaGreatDoor
open Go.RowKit
set_option linter.unusedVariables false
set_option linter.unusedSimpArgs false
set_option maxRecDepth 100000
theorem mem_legL {p : Ps} (t01 : p.t = 0 ∨ p.t = 1) {m : Mv} : m ∈ legL p ↔ legB p m = true := by
 unfold legL legB
 rw [List.mem_filter, mem_allN t01, Bool.and_eq_true]
theorem mem_legR {p : Ps} {m : Mv} (h : m ∈ legR p) : pwI p = 0 ∧ legB p m = true := by
 unfold legR at h
 split at h
 ·next hr => exact ⟨hr, (mem_legL (right_t hr).1).1 h⟩
 ·cases h
set_option maxHeartbeats 16000000 in
theorem walkLegalRight (p : Ps) (hB : Brd p.B) (w : World) (hT : TabG w) :
  Calls Tryz.prog 5 #[.agg (pl p).toArray] w fun e w' => e = .returned (.bool true) ∧ Kept w w' := by
 have HP := Lib.hid (PAt.new w hB.1)
 have HK0 := Lib.hid ((Kept.refl w).alloc (.cells (pl p).toArray 26))
 have HT := Lib.hid (hT.kept HK0.out)
 have HMv := Lib.hid (fun r g a b w hT hR => moves_is r g a b p hB w hT hR)
 have HPl : Hid (∀ m, m ∈ legR p → ∀ r g a b w, TabG w → RuAt w r g a b → Calls Tryz.prog 19 #[.pointer (some ⟨r, 0, none⟩), .agg (pl p).toArray, .agg (ml m).toArray] w (RetPE w (behP p m) 0)) := fun m hm r g a b w hT hR => by
  obtain ⟨hr, hl⟩ := mem_legR hm
  have := play_is r g a b p hB m w hT hR
  rw [playP_in hr, playE_in hr, hl] at this
  exact this
 have HQb : Hid (∀ m, m ∈ legR p → pwI (behP p m) = 0 ∧ Brd (behP p m).B) := fun m hm => by
  obtain ⟨hr, hl⟩ := mem_legR hm
  have := leg_right hB hr hl
  exact ⟨this.1, this.2.1⟩
 generalize hL : legR p = L at *
 clear hB hT hL
 go_enter Tryz.func5, Tryz.ntmps5
 go_wp2_with fail
 refine (legal_wake _ HT.out).mono ?_
 rintro e w1 ⟨rfl, k1⟩
 have HK1 := Lib.hid (HK0.out.trans k1)
 have HP1 := Lib.hid (HP.out.kept k1)
 have HT1 := Lib.hid (HT.out.kept k1)
 clear k1
 go_wp2_with fail
 refine (rnew_is _).mono ?_
 rintro e w2 ⟨r, g, a, b, rfl, hR, k1⟩
 have HK2 := Lib.hid (HK1.out.trans k1)
 have HP2 := Lib.hid (HP1.out.kept k1)
 have HT2 := Lib.hid (HT1.out.kept k1)
 have HR2 := Lib.hid hR
 clear k1 hR
 go_wp2_with (first | (refine wpList_load_ps (by rfl) _ rfl _ rfl _ (HP2.out) ?_) | (refine wpList_load_pb (by rfl) _ rfl _ rfl _ (HP2.out) ?_))
 refine (HMv.out r g a b _ HT2.out HR2.out).mono ?_
 rintro e X ⟨v, gl, rfl, hls, kX⟩
 obtain ⟨av, cv, rfl⟩ := hls.slice
 have HKX := Lib.hid (HK2.out.trans kX)
 have HPX := Lib.hid (HP2.out.kept kX)
 have HTX := Lib.hid (HT2.out.kept kX)
 have HRX := Lib.hid (HR2.out.kept kX)
 have HLs := Lib.hid hls
 generalize hn : L.length = n at *
 have HN := Lib.hid hn
 clear kX hls hn
 go_wp2
 go_loopw [15] (fun t15 wr => ∃ k : Nat, k ≤ n ∧ t15 = .int .i64 k ∧ Kept X wr) (fun t15 _ => n - (intOf t15).toNat)
 case atStart => exact ⟨0, Nat.zero_le _, rfl, Kept.refl _⟩
 case round =>
  obtain ⟨k, hk, rfl, hK⟩ := hrel
  have HK := Lib.hid hK
  by_cases hlt : k < n
  ·have hlt' : (k : Int) < (n : Int) := by omega
   obtain ⟨x, hx⟩ : ∃ x, L[k]? = some x := ⟨_, List.getElem?_eq_getElem (by have := HN.out; omega)⟩
   have hmx := List.mem_of_getElem? hx
   obtain ⟨off, cap, he, hc1, hc2, h3⟩ := HLs.out.full (by have := HN.out; omega)
   rw [HN.out] at he
   injection he with he1 he2 he3
   subst he1 he3
   rw [HN.out] at hc1
   unfold maxLen at hc2
   obtain ⟨hqr, hqb⟩ := HQb.out x hmx
   have HRx := Lib.hid (range_i (range_kept h3 hK) hx)
   have KB0 := Lib.hid ((Kept.refl wr).alloc (.cells (ml x).toArray 36))
   have HXb := Lib.hid (MAt.new wr x)
   have HPb := Lib.hid (HPX.out.kept (hK.trans KB0.out))
   have HTb := Lib.hid (HTX.out.kept (hK.trans KB0.out))
   have HRb := Lib.hid (HRX.out.kept (hK.trans KB0.out))
   have HKb := Lib.hid (hK.trans KB0.out)
   have HPx := Lib.hid (HPl.out x hmx r g a b)
   have HWq := Lib.hid (fun w => rpwrong_is (behP p x) hqb w)
   rw [hqr] at HWq
   have HMq := Lib.hid (fun w hT hR => moves_is r g a b (behP p x) hqb w hT hR)
   have HMt := Lib.hid (fun w hT hR => mate_is r g a b (behP p x) hqb w hT hR)
   have HSt := Lib.hid (fun w hT hR => stale_is r g a b (behP p x) hqb w hT hR)
   have hql : Hid ((behP p x).B.length = 64) := hqb.1
   have hSk : stuckB (behP p x) = (((legR (behP p x)).length : Int) == 0) := by
    have e : legR (behP p x) = legL (behP p x) := by unfold legR; rw [if_pos hqr]
    rw [stuck_len _ hqr, e, Bool.eq_iff_iff, beq_iff_eq, beq_iff_eq]; omega
   rw [hSk] at HMt HSt
   obtain ⟨N, hN⟩ : ∃ N, (legR (behP p x)).length = N := ⟨_, rfl⟩
   rw [hN] at HMt HSt
   have HLq := Lib.hid hN
   generalize legR (behP p x) = Lq at *
   generalize checkB (behP p x).B (behP p x).t = cb at *
   generalize behP p x = q at *
   clear h3 hx hK hmx hqr hqb hSk hN
   cases hz0 : ((N : Int) == 0)
   ·rw [hz0] at HMt HSt
    have HZ := Lib.hid hz0
    clear hz0 HMt HSt
    go_wp2_with (first | ((with_reducible refine wpList_load_mvo rfl _ rfl gl (off + k * 3) ?_ x HRx.out ?_); exact rfl) | (with_reducible refine wpList_new_mv rfl rfl ?_) | ((with_reducible refine wpList_store_newmv rfl _ _ rfl Zm x ?_ ?_ ?_); exact rfl; exact rfl) | (refine wpList_load_ps (by rfl) _ rfl _ rfl _ HPb.out ?_) | (refine wpList_load_mv (by rfl) _ rfl _ rfl _ HXb.out ?_))
    refine (HPx.out _ HTb.out HRb.out).mono ?_
    rintro e w3 ⟨rfl, k3⟩
    have KA := Lib.hid (k3.alloc (.cells (pl q).toArray 26))
    have HK3 := Lib.hid (HKb.out.trans KA.out)
    have HQ3 := Lib.hid (PAt.new w3 hql.out)
    have HT3 := Lib.hid (HTb.out.kept KA.out)
    have HR3 := Lib.hid (HRb.out.kept KA.out)
    clear k3 KA
    go_wp2_with (first | (with_reducible refine wpList_new_p rfl rfl ?_) | ((with_reducible refine wpList_store_newp rfl _ _ rfl Zp q Zp_len hql.out ?_ ?_ ?_); exact rfl; exact rfl) | (refine wpList_load_ps (by rfl) _ rfl _ rfl _ HQ3.out ?_))
    generalize w3.alloc (.cells (pl q).toArray 26) = W3 at *
    generalize w3.heap.size = gq at *
    refine (HWq.out _).mono ?_
    rintro e w4 ⟨rfl, k4⟩
    have HK4 := Lib.hid (HK3.out.trans k4)
    have HQ4 := Lib.hid (HQ3.out.kept k4)
    have HT4 := Lib.hid (HT3.out.kept k4)
    have HR4 := Lib.hid (HR3.out.kept k4)
    clear k4
    go_wp2
    have hz : ((N : Int) == 0) = false := HZ.out
    refine wp_region_held_drew (S := Kept _) (by kernel_rfl) (Kept.refl _).drew (fun hHeld => ?_)
    refine rT 0 33 (.pointer (some ⟨r, 0, none⟩)) rfl rfl hHeld ?_
    simp only [Act.put, sA, sZ, sU]
    refine rY 1 34 rfl rfl (take_load_ps (by rfl) _ rfl _ rfl q hql.out (fun _ h => (HQ4.out).kept h)) hHeld ?_
    simp only [pA, pN, sZ, sU]
    refine rR 2 rfl (fun K hK => ?_)
    go_simp
    refine (HMq.out _ (HT4.out.kept hHeld) (HR4.out.kept hHeld)).mono ?_
    rintro e y1 ⟨vy1, gy1, rfl, hly1, ky1⟩
    obtain ⟨ay1, cy1, rfl⟩ := hly1.slice
    rw [HLq.out]
    refine hK.out _ _ (hHeld.trans ky1) (fun _ => ?_)
    replace hHeld := hHeld.trans ky1
    clear hK K hly1 ky1
    refine rT 3 36 (.int .i64 (N : Int)) rfl rfl hHeld ?_
    simp only [pA, pN, sZ, sU]
    refine rT 4 37 (.bool false) rfl rfl hHeld ?_
    simp only [pA, pN, sZ, sU]
    refine rT 5 38 (.bool false) rfl rfl hHeld ?_
    simp only [pA, pN, sZ, sU]
    refine rN 6 39 rfl rfl hHeld ?_
    simp only [pA, pN, sZ, sU]
    refine rN 7 40 rfl rfl hHeld ?_
    simp only [pA, pN, sZ, sU]
    refine rN 8 41 rfl rfl hHeld ?_
    simp only [pA, pN, sZ, sU]
    refine rN 9 42 rfl rfl hHeld ?_
    simp only [pA, pN, sZ, sU]
    refine rN 10 43 rfl rfl hHeld ?_
    simp only [pA, pN, sZ, sU]
    refine rN 11 44 rfl rfl hHeld ?_
    simp only [pA, pN, sZ, sU]
    refine rN 12 45 rfl rfl hHeld ?_
    simp only [pA, pN, sZ, sU]
    refine rT 13 46 (.bool false) rfl rfl hHeld ?_
    simp only [pA, pN, sZ, sU]
    refine wpAnyH_done (by kernel_rfl) ?_ _
    have HK5 := Lib.hid (HK4.out.trans hHeld)
    clear hHeld hz
    go_wp2
    go_roundw
    case rel => exact ⟨k + 1, by omega, by go_num, HK5.out⟩
    case measure => simp [intOf]; omega
   ·rw [hz0, Bool.and_true] at HMt HSt
    have HZ := Lib.hid hz0
    clear hz0
    cases cb
    ·skip
     go_wp2_with (first | ((with_reducible refine wpList_load_mvo rfl _ rfl gl (off + k * 3) ?_ x HRx.out ?_); exact rfl) | (with_reducible refine wpList_new_mv rfl rfl ?_) | ((with_reducible refine wpList_store_newmv rfl _ _ rfl Zm x ?_ ?_ ?_); exact rfl; exact rfl) | (refine wpList_load_ps (by rfl) _ rfl _ rfl _ HPb.out ?_) | (refine wpList_load_mv (by rfl) _ rfl _ rfl _ HXb.out ?_))
     refine (HPx.out _ HTb.out HRb.out).mono ?_
     rintro e w3 ⟨rfl, k3⟩
     have KA := Lib.hid (k3.alloc (.cells (pl q).toArray 26))
     have HK3 := Lib.hid (HKb.out.trans KA.out)
     have HQ3 := Lib.hid (PAt.new w3 hql.out)
     have HT3 := Lib.hid (HTb.out.kept KA.out)
     have HR3 := Lib.hid (HRb.out.kept KA.out)
     clear k3 KA
     go_wp2_with (first | (with_reducible refine wpList_new_p rfl rfl ?_) | ((with_reducible refine wpList_store_newp rfl _ _ rfl Zp q Zp_len hql.out ?_ ?_ ?_); exact rfl; exact rfl) | (refine wpList_load_ps (by rfl) _ rfl _ rfl _ HQ3.out ?_))
     generalize w3.alloc (.cells (pl q).toArray 26) = W3 at *
     generalize w3.heap.size = gq at *
     refine (HWq.out _).mono ?_
     rintro e w4 ⟨rfl, k4⟩
     have HK4 := Lib.hid (HK3.out.trans k4)
     have HQ4 := Lib.hid (HQ3.out.kept k4)
     have HT4 := Lib.hid (HT3.out.kept k4)
     have HR4 := Lib.hid (HR3.out.kept k4)
     clear k4
     go_wp2
     have hz : ((N : Int) == 0) = true := HZ.out
     refine wp_region_held_drew (S := Kept _) (by kernel_rfl) (Kept.refl _).drew (fun hHeld => ?_)
     refine rT 0 33 (.pointer (some ⟨r, 0, none⟩)) rfl rfl hHeld ?_
     simp only [Act.put, sA, sZ, sU]
     refine rY 1 34 rfl rfl (take_load_ps (by rfl) _ rfl _ rfl q hql.out (fun _ h => (HQ4.out).kept h)) hHeld ?_
     simp only [pA, pN, sZ, sU]
     refine rR 2 rfl (fun K hK => ?_)
     go_simp
     refine (HMq.out _ (HT4.out.kept hHeld) (HR4.out.kept hHeld)).mono ?_
     rintro e y1 ⟨vy1, gy1, rfl, hly1, ky1⟩
     obtain ⟨ay1, cy1, rfl⟩ := hly1.slice
     rw [HLq.out]
     refine hK.out _ _ (hHeld.trans ky1) (fun _ => ?_)
     replace hHeld := hHeld.trans ky1
     clear hK K hly1 ky1
     refine rT 3 36 (.int .i64 (N : Int)) rfl rfl hHeld ?_
     simp only [pA, pN, sZ, sU]
     refine rT 4 37 (.bool true) rfl rfl hHeld ?_
     simp only [pA, pN, sZ, sU]
     refine rT 5 38 (.bool true) rfl rfl hHeld ?_
     simp only [pA, pN, sZ, sU]
     refine rT 6 39 (.pointer (some ⟨r, 0, none⟩)) rfl rfl hHeld ?_
     simp only [pA, pN, sZ, sU]
     refine rY 7 40 rfl rfl (take_load_ps (by rfl) _ rfl _ rfl q hql.out (fun _ h => (HQ4.out).kept h)) hHeld ?_
     simp only [pA, pN, sZ, sU]
     refine rT 9 42 (.pointer (some ⟨r, 0, none⟩)) rfl rfl hHeld ?_
     simp only [pA, pN, sZ, sU]
     refine rY 10 43 rfl rfl (take_load_ps (by rfl) _ rfl _ rfl q hql.out (fun _ h => (HQ4.out).kept h)) hHeld ?_
     simp only [pA, pN, sZ, sU]
     refine rR 8 rfl (fun K hK => ?_)
     rw [if_pos (by rfl)]
     go_simp
     refine (HMt.out _ (HT4.out.kept hHeld) (HR4.out.kept hHeld)).mono ?_
     rintro e y2 ⟨rfl, gy2⟩
     refine hK.out _ _ (hHeld.trans gy2) (fun _ => ?_)
     replace hHeld := hHeld.trans gy2
     clear hK K
     refine rR 11 rfl (fun K hK => ?_)
     rw [if_pos (by rfl)]
     go_simp
     refine (HSt.out _ (HT4.out.kept hHeld) (HR4.out.kept hHeld)).mono ?_
     rintro e y3 ⟨rfl, gy3⟩
     refine hK.out _ _ (hHeld.trans gy3) (fun _ => ?_)
     replace hHeld := hHeld.trans gy3
     clear hK K
     refine rT 12 45 (.bool false) rfl rfl hHeld ?_
     simp only [pA, pN, sZ, sU]
     refine rT 13 46 (.bool false) rfl rfl hHeld ?_
     simp only [pA, pN, sZ, sU]
     refine wpAnyH_done (by kernel_rfl) ?_ _
     have HK5 := Lib.hid (HK4.out.trans hHeld)
     clear hHeld hz
     go_wp2
     go_roundw
     case rel => exact ⟨k + 1, by omega, by go_num, HK5.out⟩
     case measure => simp [intOf]; omega
    ·skip
     go_wp2_with (first | ((with_reducible refine wpList_load_mvo rfl _ rfl gl (off + k * 3) ?_ x HRx.out ?_); exact rfl) | (with_reducible refine wpList_new_mv rfl rfl ?_) | ((with_reducible refine wpList_store_newmv rfl _ _ rfl Zm x ?_ ?_ ?_); exact rfl; exact rfl) | (refine wpList_load_ps (by rfl) _ rfl _ rfl _ HPb.out ?_) | (refine wpList_load_mv (by rfl) _ rfl _ rfl _ HXb.out ?_))
     refine (HPx.out _ HTb.out HRb.out).mono ?_
     rintro e w3 ⟨rfl, k3⟩
     have KA := Lib.hid (k3.alloc (.cells (pl q).toArray 26))
     have HK3 := Lib.hid (HKb.out.trans KA.out)
     have HQ3 := Lib.hid (PAt.new w3 hql.out)
     have HT3 := Lib.hid (HTb.out.kept KA.out)
     have HR3 := Lib.hid (HRb.out.kept KA.out)
     clear k3 KA
     go_wp2_with (first | (with_reducible refine wpList_new_p rfl rfl ?_) | ((with_reducible refine wpList_store_newp rfl _ _ rfl Zp q Zp_len hql.out ?_ ?_ ?_); exact rfl; exact rfl) | (refine wpList_load_ps (by rfl) _ rfl _ rfl _ HQ3.out ?_))
     generalize w3.alloc (.cells (pl q).toArray 26) = W3 at *
     generalize w3.heap.size = gq at *
     refine (HWq.out _).mono ?_
     rintro e w4 ⟨rfl, k4⟩
     have HK4 := Lib.hid (HK3.out.trans k4)
     have HQ4 := Lib.hid (HQ3.out.kept k4)
     have HT4 := Lib.hid (HT3.out.kept k4)
     have HR4 := Lib.hid (HR3.out.kept k4)
     clear k4
     go_wp2
     have hz : ((N : Int) == 0) = true := HZ.out
     refine wp_region_held_drew (S := Kept _) (by kernel_rfl) (Kept.refl _).drew (fun hHeld => ?_)
     refine rT 0 33 (.pointer (some ⟨r, 0, none⟩)) rfl rfl hHeld ?_
     simp only [Act.put, sA, sZ, sU]
     refine rY 1 34 rfl rfl (take_load_ps (by rfl) _ rfl _ rfl q hql.out (fun _ h => (HQ4.out).kept h)) hHeld ?_
     simp only [pA, pN, sZ, sU]
     refine rR 2 rfl (fun K hK => ?_)
     go_simp
     refine (HMq.out _ (HT4.out.kept hHeld) (HR4.out.kept hHeld)).mono ?_
     rintro e y1 ⟨vy1, gy1, rfl, hly1, ky1⟩
     obtain ⟨ay1, cy1, rfl⟩ := hly1.slice
     rw [HLq.out]
     refine hK.out _ _ (hHeld.trans ky1) (fun _ => ?_)
     replace hHeld := hHeld.trans ky1
     clear hK K hly1 ky1
     refine rT 3 36 (.int .i64 (N : Int)) rfl rfl hHeld ?_
     simp only [pA, pN, sZ, sU]
     refine rT 4 37 (.bool true) rfl rfl hHeld ?_
     simp only [pA, pN, sZ, sU]
     refine rT 5 38 (.bool true) rfl rfl hHeld ?_
     simp only [pA, pN, sZ, sU]
     refine rT 6 39 (.pointer (some ⟨r, 0, none⟩)) rfl rfl hHeld ?_
     simp only [pA, pN, sZ, sU]
     refine rY 7 40 rfl rfl (take_load_ps (by rfl) _ rfl _ rfl q hql.out (fun _ h => (HQ4.out).kept h)) hHeld ?_
     simp only [pA, pN, sZ, sU]
     refine rT 9 42 (.pointer (some ⟨r, 0, none⟩)) rfl rfl hHeld ?_
     simp only [pA, pN, sZ, sU]
     refine rY 10 43 rfl rfl (take_load_ps (by rfl) _ rfl _ rfl q hql.out (fun _ h => (HQ4.out).kept h)) hHeld ?_
     simp only [pA, pN, sZ, sU]
     refine rR 8 rfl (fun K hK => ?_)
     rw [if_pos (by rfl)]
     go_simp
     refine (HMt.out _ (HT4.out.kept hHeld) (HR4.out.kept hHeld)).mono ?_
     rintro e y2 ⟨rfl, gy2⟩
     refine hK.out _ _ (hHeld.trans gy2) (fun _ => ?_)
     replace hHeld := hHeld.trans gy2
     clear hK K
     refine rR 11 rfl (fun K hK => ?_)
     rw [if_pos (by rfl)]
     go_simp
     refine (HSt.out _ (HT4.out.kept hHeld) (HR4.out.kept hHeld)).mono ?_
     rintro e y3 ⟨rfl, gy3⟩
     refine hK.out _ _ (hHeld.trans gy3) (fun _ => ?_)
     replace hHeld := hHeld.trans gy3
     clear hK K
     refine rT 12 45 (.bool false) rfl rfl hHeld ?_
     simp only [pA, pN, sZ, sU]
     refine rT 13 46 (.bool false) rfl rfl hHeld ?_
     simp only [pA, pN, sZ, sU]
     refine wpAnyH_done (by kernel_rfl) ?_ _
     have HK5 := Lib.hid (HK4.out.trans hHeld)
     clear hHeld hz
     go_wp2
     go_roundw
     case rel => exact ⟨k + 1, by omega, by go_num, HK5.out⟩
     case measure => simp [intOf]; omega
  ·clear hK
   go_wp2
   go_ret
   exact ⟨rfl, HKX.out.trans HK.out⟩
end Go.Proofs.YtfekipadkenhpaaGreatDoor
