/- The example of keys; the walks of KeyMixes and KeyOf. -/
import Derived.Test.YtkebpchhpidogaaKeD
import Derived.Test.YtkebpchhpidogaaPoS
namespace Go.Proofs.Ytkebpchhpidogaa
open Go.RowKit
set_option linter.unusedVariables false
set_option linter.unusedSimpArgs false

/-- The first position, Black to move. -/
def Fp1 : Ps := ⟨Fb, 1, 15, -1⟩
theorem set_fp1 : (pl Fp).set 64 (.int .i64 1) = pl Fp1 := rfl
theorem key_ne : keyP Fp ≠ keyP Fp1 := by decide +kernel
set_option maxHeartbeats 1000000 in
theorem key_wakes (w : World) : Calls Try.prog 5 #[] w fun e w' => e = .returned (.bool true) ∧ Kept w w' := by
  have HM := Lib.hid (fun w => calls_kept (kmix_is 0 zero_u w))
  rw [mix_0] at HM
  have HO1 := Lib.hid (kof_is Fp Fp_brd)
  have HO2 := Lib.hid (kof_is Fp1 Fp_brd)
  have hb : ¬ keyP Fp = keyP Fp1 := key_ne
  have hpl : Hid (Fp.B.length = 64) := Fp_len
  have hql : Hid (Fp1.B.length = 64) := Fp_len
  generalize keyP Fp = a at *
  generalize keyP Fp1 = b at *
  go_enter Try.func5, Try.ntmps5
  go_wp2_with fail
  refine (pfirst_is _).mono ?_
  rintro e w1 ⟨rfl, k1⟩
  have HK1 := Lib.hid (k1.alloc (.cells (pl Fp).toArray 30))
  have HP1 := Lib.hid (PAt.new w1 Fp_len)
  clear k1
  go_wp2_with (first
    | (with_reducible refine wpList_new_p rfl rfl ?_)
    | ((with_reducible refine wpList_store_newp rfl _ _ rfl Zp Fp Zp_len Fp_len ?_ ?_ ?_); exact rfl; exact rfl; refine Hid.out ?_))
  refine Lib.hid ?_
  generalize w1.alloc (.cells (pl Fp).toArray 30) = W at *
  generalize w1.heap.size = g at *
  have HN := Lib.hid (PAt.new W Fp_len)
  have HKN := Lib.hid ((Kept.refl W).alloc (.cells (pl Fp).toArray 30))
  go_wp2_with (first
    | (refine wpList_load_ps (by rfl) _ rfl _ rfl _ HP1.out ?_)
    | (with_reducible refine wpList_new_p rfl rfl ?_)
    | ((with_reducible refine wpList_store_newp rfl _ _ rfl Zp Fp Zp_len Fp_len ?_ ?_ ?_); exact rfl; exact rfl; refine Hid.out ?_))
  refine Lib.hid ?_
  have c1 := HN.out.turn
  have f1 := HN.out.frozen 64
  have HQ2 := Lib.hid (PAt.new W (p := Fp1) Fp_len)
  have HKW := Lib.hid ((Kept.refl W).alloc (.cells (pl Fp1).toArray 30))
  have HP2 := Lib.hid (HP1.out.kept HKW.out)
  clear HN HKN
  go_wp2
  rw [set_fp1]
  clear c1 f1
  generalize W.alloc (.cells (pl Fp1).toArray 30) = X at *
  generalize W.heap.size = h at *
  refine wp_region_held_drew (S := Kept _) (by kernel_rfl) (Kept.refl _).drew (fun hHeld => ?_)
  refine rR 0 rfl (fun K hK => ?_)
  go_simp
  refine (HM.out _).mono ?_
  rintro e x1 ⟨rfl, gx1⟩
  refine hK.out _ _ (hHeld.trans gx1) (fun _ => ?_)
  replace hHeld := hHeld.trans gx1
  clear hK K
  refine rT 1 7 (.bool true) rfl rfl hHeld ?_
  simp only [Act.put, sA, sZ, sU]
  refine rT 2 8 (.bool true) rfl rfl hHeld ?_
  simp only [pA, pN, sZ, sU]
  refine rY 3 9 rfl rfl (take_load_ps (by rfl) _ rfl _ rfl (Fp) hpl.out (fun _ h => (HP2.out).kept h)) hHeld ?_
  simp only [pA, pN, sZ, sU]
  refine rY 5 11 rfl rfl (take_load_ps (by rfl) _ rfl _ rfl (Fp1) hql.out (fun _ h => (HQ2.out).kept h)) hHeld ?_
  simp only [pA, pN, sZ, sU]
  refine rR 4 rfl (fun K hK => ?_)
  go_simp
  refine (HO1.out _).mono ?_
  rintro e x2 ⟨rfl, gx2⟩
  refine hK.out _ _ (hHeld.trans gx2) (fun _ => ?_)
  replace hHeld := hHeld.trans gx2
  clear hK K
  refine rR 6 rfl (fun K hK => ?_)
  go_simp
  refine (HO2.out _).mono ?_
  rintro e x3 ⟨rfl, gx3⟩
  refine hK.out _ _ (hHeld.trans gx3) (fun _ => ?_)
  replace hHeld := hHeld.trans gx3
  clear hK K
  refine rT 7 13 (.bool true) rfl rfl hHeld ?_
  simp only [pA, pN, sZ, sU]
  refine rT 8 14 (.bool true) rfl rfl hHeld ?_
  simp only [pA, pN, sZ, sU]
  refine rT 9 0 (.bool true) rfl rfl hHeld ?_
  simp only [pA, pN, sZ, sU]
  refine wpAnyH_done (by kernel_rfl) ?_ _
  go_wp2
  go_ret
  exact ⟨rfl, (HK1.out.trans HKW.out).trans hHeld⟩
theorem wf_u64 {x : Int} (h : (Lit.int .u64 x).wf = true) : U x := by
  have e1 : IntKind.u64.min = 0 := by decide
  have e2 : IntKind.u64.max = 18446744073709551615 := by decide
  simp [Lit.wf, e1, e2] at h
  exact ⟨by omega, by omega⟩
theorem walkKeyMixes (n : Int) (wn : (Lit.int .u64 n).wf = true) (w : World) : Calls Try.prog 3 #[.int .u64 n] w fun e w' => e = .returned (.bool true) ∧ Kept w w' := by
  have hu : U n := wf_u64 wn
  have H1 := Lib.hid (kmix_is n hu)
  have H2 := Lib.hid (rmix_is n hu)
  clear wn hu
  generalize mixI n = z at *
  go_enter Try.func3, Try.ntmps3
  go_wp2_with fail
  refine (key_wakes _).mono ?_
  rintro e w1 ⟨rfl, k1⟩
  have HK := Lib.hid k1
  clear k1
  go_wp2_with fail
  refine (H1.out _).mono ?_
  rintro e w2 ⟨rfl, rfl⟩
  go_wp2_with fail
  refine (H2.out _).mono ?_
  rintro e w2 ⟨rfl, rfl⟩
  go_wp2
  go_ret
  exact ⟨rfl, HK.out⟩
set_option maxHeartbeats 4000000 in
theorem walkKeyOf (p : Ps) (hB : Brd p.B) (q : Ps) (hQ : Brd q.B) (w : World) :
    Calls Try.prog 4 #[.agg (pl p).toArray, .agg (pl q).toArray] w fun e w' => e = .returned (.bool true) ∧ Kept w w' := by
  have HP : Hid (PAt _ _ p) := ⟨hB.1, heap_alloc2_old w (.cells (pl p).toArray 30) (.cells (pl q).toArray 30)⟩
  have HQ : Hid (PAt _ _ q) := ⟨hQ.1, heap_alloc2_new w (.cells (pl p).toArray 30) (.cells (pl q).toArray 30)⟩
  have HK0 := Lib.hid (((Kept.refl w).alloc (.cells (pl p).toArray 30)).alloc (.cells (pl q).toArray 30))
  have hpl : Hid (p.B.length = 64) := hB.1
  have hql : Hid (q.B.length = 64) := hQ.1
  have HO1 := Lib.hid (kof_is p hB)
  have HO2 := Lib.hid (kof_is q hQ)
  have HR := Lib.hid (rof_is p hB)
  have HB1 := Lib.hid (kbehind_is (keyP p) (key_u p) p q hB hQ)
  have HB2 := Lib.hid (kbehind_is (keyP q) (key_u q) q p hQ hB)
  have HB3 := Lib.hid (kbehind_is (keyP p) (key_u p) p p hB hB)
  rw [beh_key] at HB1 HB2 HB3
  generalize keyP p = a at *
  generalize keyP q = b at *
  clear hB hQ
  go_enter Try.func4, Try.ntmps4
  go_wp2_with fail
  refine (key_wakes _).mono ?_
  rintro e w1 ⟨rfl, k1⟩
  have HP1 := Lib.hid (HP.out.kept k1)
  have HQ1 := Lib.hid (HQ.out.kept k1)
  have HK1 := Lib.hid (HK0.out.trans k1)
  clear k1 HP HQ HK0
  go_wp2
  refine wp_region_held_drew (S := Kept _) (by kernel_rfl) (Kept.refl _).drew (fun hHeld => ?_)
  refine rY 0 9 rfl rfl (take_load_ps (by rfl) _ rfl _ rfl p hpl.out (fun _ h => (HP1.out).kept h)) hHeld ?_
  simp only [pA, pN, sZ, sU]
  refine rY 2 11 rfl rfl (take_load_ps (by rfl) _ rfl _ rfl q hql.out (fun _ h => (HQ1.out).kept h)) hHeld ?_
  simp only [pA, pN, sZ, sU]
  refine rR 1 rfl (fun K hK => ?_)
  go_simp
  refine (HO1.out _).mono ?_
  rintro e x1 ⟨rfl, gx1⟩
  refine hK.out _ _ (hHeld.trans gx1) (fun _ => ?_)
  replace hHeld := hHeld.trans gx1
  clear hK K
  refine rR 3 rfl (fun K hK => ?_)
  go_simp
  refine (HO2.out _).mono ?_
  rintro e x2 ⟨rfl, gx2⟩
  refine hK.out _ _ (hHeld.trans gx2) (fun _ => ?_)
  replace hHeld := hHeld.trans gx2
  clear hK K
  refine rT 4 5 (.int .u64 a) rfl rfl hHeld ?_
  simp only [pA, pN, sZ, sU]
  refine rT 5 6 (.int .u64 b) rfl rfl hHeld ?_
  simp only [pA, pN, sZ, sU]
  refine wpAnyH_done (by kernel_rfl) ?_ _
  have HP2 := Lib.hid (HP1.out.kept hHeld)
  have HQ2 := Lib.hid (HQ1.out.kept hHeld)
  have HK2 := Lib.hid (HK1.out.trans hHeld)
  clear hHeld gx1 gx2
  go_wp2_with (first | (refine wpList_load_ps (by rfl) _ rfl _ rfl p HP2.out ?_) | (refine wpList_load_ps (by rfl) _ rfl _ rfl q HQ2.out ?_))
  refine (HR.out _).mono ?_
  rintro e w3 ⟨rfl, k3⟩
  have HP3 := Lib.hid (HP2.out.kept k3)
  have HQ3 := Lib.hid (HQ2.out.kept k3)
  have HK3 := Lib.hid (HK2.out.trans k3)
  clear k3 HP2 HQ2 HK2
  go_wp2_with (first | (refine wpList_load_ps (by rfl) _ rfl _ rfl p HP3.out ?_) | (refine wpList_load_ps (by rfl) _ rfl _ rfl q HQ3.out ?_))
  refine (HB1.out _).mono ?_
  rintro e w4 ⟨rfl, k4⟩
  have HP4 := Lib.hid (HP3.out.kept k4)
  have HQ4 := Lib.hid (HQ3.out.kept k4)
  have HK4 := Lib.hid (HK3.out.trans k4)
  clear k4 HP3 HQ3 HK3
  go_wp2_with (first | (refine wpList_load_ps (by rfl) _ rfl _ rfl p HP4.out ?_) | (refine wpList_load_ps (by rfl) _ rfl _ rfl q HQ4.out ?_))
  refine (HB2.out _).mono ?_
  rintro e w5 ⟨rfl, k5⟩
  have HP5 := Lib.hid (HP4.out.kept k5)
  have HK5 := Lib.hid (HK4.out.trans k5)
  clear k5 HP4 HQ4 HK4
  go_wp2_with (refine wpList_load_ps (by rfl) _ rfl _ rfl p HP5.out ?_)
  refine (HB3.out _).mono ?_
  rintro e w6 ⟨rfl, k6⟩
  have HK6 := Lib.hid (HK5.out.trans k6)
  clear k6
  go_wp2
  go_ret
  exact ⟨rfl, HK6.out⟩
end Go.Proofs.Ytkebpchhpidogaa
