/- The walks of MoveMen and MoveTurned. (Written by wip/mkmvr.py.). -/
import Derived.Test.YtliibpahnkeogaaDoorPkM
import Derived.Test.YtliibpahnkeogaaDoorPkR
namespace Go.Proofs.YtliibpahnkeogaaDoor
open Go.RowKit
set_option linter.unusedVariables false
set_option linter.unusedSimpArgs false
set_option maxRecDepth 100000

/-- What a move that isn't made is refused with. -/
def errI (p : Ps) : Int := if pwI p ≠ 0 then pwI p else 5
theorem errI_ne (p : Ps) : (errI p != 0) = true := by
  rw [bne_iff_ne]; unfold errI; split
  · assumption
  · decide
theorem make_no (p : Ps) (hB : Brd p.B) (m : Mv) (h : okM p m = false) (w : World) (hT : TabM w) :
    Calls Tryd.prog 9 #[.agg (pl p).toArray, .agg (ml m).toArray] w (RetPE w Zp (errI p)) := by
  unfold errI
  by_cases hv : pwI p = 0
  · rw [if_neg (by simpa using hv)]
    refine make_unformed p hB m hv ?_ w hT
    unfold okM at h
    rw [hv] at h
    simpa using h
  · rw [if_pos hv]; exact make_wrong p hB m hv w hT
set_option maxHeartbeats 2000000 in
theorem men_no (p : Ps) (hB : Brd p.B) (m : Mv) (h : okM p m = false) (w : World) (hT : TabM w) :
    Calls Tryd.prog 4 #[.agg (pl p).toArray, .agg (ml m).toArray] w fun e w' => e = .returned (.bool true) ∧ Kept w w' := by
  have HP : Hid (PAt _ _ p) := ⟨hB.1, heap_alloc2_old w (.cells (pl p).toArray 26) (.cells (ml m).toArray 28)⟩
  have HM : Hid (MAt _ _ m) := ⟨heap_alloc2_new w (.cells (pl p).toArray 26) (.cells (ml m).toArray 28)⟩
  have HK0 := Lib.hid (((Kept.refl w).alloc (.cells (pl p).toArray 26)).alloc (.cells (ml m).toArray 28))
  have HT := Lib.hid (hT.kept HK0.out)
  have HC := Lib.hid (fun w hw => make_no p hB m h w hw)
  have hne := errI_ne p
  generalize errI p = x at *
  clear hB hT h
  go_enter Tryd.func4, Tryd.ntmps4
  go_wp2_with fail
  refine (move_wake _ HT.out).mono ?_
  rintro e w1 ⟨rfl, k1⟩
  have HK1 := Lib.hid (HK0.out.trans k1)
  have HP1 := Lib.hid (HP.out.kept k1)
  have HM1 := Lib.hid (MAt.kept HM.out k1)
  have HT1 := Lib.hid (HT.out.kept k1)
  clear k1
  go_wp2_with (first | (refine wpList_load_ps (by rfl) _ rfl _ rfl _ (HP1.out) ?_) | (refine wpList_load_pb (by rfl) _ rfl _ rfl _ (HP1.out) ?_) | (refine wpList_load_mv (by rfl) _ rfl _ rfl _ (HM1.out) ?_))
  refine (HC.out _ HT1.out).mono ?_
  rintro e w2 ⟨rfl, k2⟩
  have HK2 := Lib.hid ((HK1.out.trans k2).alloc (.cells (pl Zp).toArray 26))
  have HQ2 := Lib.hid (PAt.new w2 Zp_len)
  clear k2
  go_wp2_with (first | (with_reducible refine wpList_new_p rfl rfl ?_) | ((with_reducible refine wpList_store_newp rfl _ _ rfl Zp Zp Zp_len Zp_len ?_ ?_ ?_); exact rfl; exact rfl) | (refine wpList_load_ps (by rfl) _ rfl _ rfl _ HQ2.out ?_) | (refine wpList_built_p0 (by rfl) rfl ?_) | (refine wpList_eql_p (by rfl) _ _ _ rfl Zp Zp rfl rfl ⟨Zp_len, Zp_len, beqP_refl _⟩ ?_))
  go_ret
  exact ⟨rfl, HK2.out⟩
theorem nz_beq (x : Int) : nz x = if x != 0 then 1 else 0 := by
  unfold nz
  by_cases h : x = 0
  · rw [if_pos h, h]; rfl
  · rw [if_neg h, if_pos (bne_iff_ne.2 h)]
set_option maxHeartbeats 4000000 in
theorem men_yes (p : Ps) (hB : Brd p.B) (m : Mv) (h : okM p m = true) (w : World) (hT : TabM w) :
    Calls Tryd.prog 4 #[.agg (pl p).toArray, .agg (ml m).toArray] w fun e w' => e = .returned (.bool true) ∧ Kept w w' := by
  obtain ⟨f, t, hFm⟩ := form_of hB h
  obtain ⟨n1, n2, n3⟩ := beh_cnt hFm
  obtain ⟨t01, ⟨c0, c1⟩, _⟩ := right_t hFm.right
  obtain ⟨r1, r2, r3⟩ := rt_bd c0 c1 m
  have HP : Hid (PAt _ _ p) := ⟨hB.1, heap_alloc2_old w (.cells (pl p).toArray 26) (.cells (ml m).toArray 28)⟩
  have HM : Hid (MAt _ _ m) := ⟨heap_alloc2_new w (.cells (pl p).toArray 26) (.cells (ml m).toArray 28)⟩
  have HK0 := Lib.hid (((Kept.refl w).alloc (.cells (pl p).toArray 26)).alloc (.cells (ml m).toArray 28))
  have HT := Lib.hid (hT.kept HK0.out)
  have hql : Hid ((behP p m).B.length = 64) := behB_len hB.1
  have HC := Lib.hid (fun w hw => make_yes p hB m h w hw)
  have HTk := Lib.hid (fun w hw => takes_yes p hB m h w hw)
  have hFq : (behP p m).B.getD f 0 = 0 := n2
  have hTq : ((behP p m).B.getD t 0 != 0) = true := bne_iff_ne.2 n3
  have hcq : bits .andNot .i64 (behP p m).c p.c = 0 := r3
  have htq : (behP p m).t = 1 - p.t := other_at t01
  have hwr : IntKind.i64.wrap (1 - p.t) = 1 - p.t := by rcases t01 with h | h <;> rw [h] <;> decide
  have HN1 : Hid (cN (behP p m).B 64 + (if takeB p m then 1 else 0) = cN p.B 64) := n1
  have HFt : Hid (m.f = f ∧ m.t = t) := ⟨hFm.hf, hFm.ht⟩
  have f1 := hFm.f1
  have t1 := hFm.t1
  have hfI : (f : Int) < 64 := by omega
  have htI : (t : Int) < 64 := by omega
  have HLe := Lib.hid (cN_le p.B)
  have HLq := Lib.hid (cN_le (behP p m).B)
  clear hB hT h n1 n2 n3 r1 r2 r3 c0 c1 t01 hFm
  generalize behP p m = q at *
  generalize takeS p m = ts at *
  go_enter Tryd.func4, Tryd.ntmps4
  go_wp2_with fail
  refine (move_wake _ HT.out).mono ?_
  rintro e w1 ⟨rfl, k1⟩
  have HK1 := Lib.hid (HK0.out.trans k1)
  have HP1 := Lib.hid (HP.out.kept k1)
  have HM1 := Lib.hid (MAt.kept HM.out k1)
  have HT1 := Lib.hid (HT.out.kept k1)
  clear k1
  go_wp2_with (first | (refine wpList_load_ps (by rfl) _ rfl _ rfl _ (HP1.out) ?_) | (refine wpList_load_pb (by rfl) _ rfl _ rfl _ (HP1.out) ?_) | (refine wpList_load_mv (by rfl) _ rfl _ rfl _ (HM1.out) ?_))
  refine (HC.out _ HT1.out).mono ?_
  rintro e w2 ⟨rfl, k2⟩
  have KA := Lib.hid (k2.alloc (.cells (pl q).toArray 26))
  have HK2 := Lib.hid (HK1.out.trans KA.out)
  have HQ2 := Lib.hid (PAt.new w2 hql.out)
  have HP2 := Lib.hid (HP1.out.kept KA.out)
  have HM2 := Lib.hid (MAt.kept HM1.out KA.out)
  have HT2 := Lib.hid (HT1.out.kept KA.out)
  clear k2 KA
  go_wp2_with (first | (with_reducible refine wpList_new_p rfl rfl ?_) | ((with_reducible refine wpList_store_newp rfl _ _ rfl Zp q Zp_len hql.out ?_ ?_ ?_); exact rfl; exact rfl) | (refine wpList_load_ps (by rfl) _ rfl _ rfl _ HP2.out ?_) | (refine wpList_load_mv (by rfl) _ rfl _ rfl _ HM2.out ?_))
  generalize w2.alloc (.cells (pl q).toArray 26) = W2 at *
  generalize w2.heap.size = gq at *
  refine (HTk.out _ HT2.out).mono ?_
  rintro e w3 ⟨rfl, k3⟩
  have HK3 := Lib.hid (HK2.out.trans k3)
  have HQ3 := Lib.hid (HQ2.out.kept k3)
  have HP3 := Lib.hid (HP2.out.kept k3)
  have HM3 := Lib.hid (MAt.kept HM2.out k3)
  clear k3
  go_wp2
  go_loopw [9, 10, 31] (fun t9 t10 t31 wr => ∃ k : Nat, k ≤ 64 ∧ t31 = .int .i64 k ∧ t9 = .int .i64 (cN p.B k : Nat) ∧ t10 = .int .i64 (cN q.B k : Nat) ∧ Kept w3 wr) (fun _ _ t31 _ => 64 - (intOf t31).toNat)
  case atStart => exact ⟨0, by omega, rfl, rfl, rfl, Kept.refl _⟩
  case round =>
    obtain ⟨k, hk, rfl, rfl, rfl, hK⟩ := hrel
    have HK := Lib.hid hK
    clear hK
    by_cases hlt : k < 64
    · have hkI : (k : Int) < 64 := by omega
      have y1 := (HP3.out.kept HK.out).sq k hlt
      have y2 := (HQ3.out.kept HK.out).sq k hlt
      have HA : Hid (cN p.B (k + 1) = cN p.B k + nz (p.B.getD k 0)) := rfl
      have HB : Hid (cN q.B (k + 1) = cN q.B k + nz (q.B.getD k 0)) := rfl
      have la := HLe.out k
      have lb := HLq.out k
      rw [nz_beq] at HA HB
      generalize cN p.B k = na at *
      generalize cN q.B k = nb at *
      have e1 : IntKind.i64.wrap ((na : Int) + 1) = ((na + 1 : Nat) : Int) := by rw [IntWalk.i64_in _ (by omega)]; rfl
      have e2 : IntKind.i64.wrap ((nb : Int) + 1) = ((nb + 1 : Nat) : Int) := by rw [IntWalk.i64_in _ (by omega)]; rfl
      generalize p.B.getD k 0 = x at *
      generalize q.B.getD k 0 = y at *
      clear la lb
      cases hx : (x != 0)
      · rw [hx] at HA
        have HA' : Hid (cN p.B (k + 1) = na) := HA.out
        cases hy : (y != 0)
        · rw [hy] at HB
          have HB' : Hid (cN q.B (k + 1) = nb) := HB.out
          go_wp2
          go_roundw
          case rel => exact ⟨k + 1, by omega, by go_num, (by rw [HA'.out]; try rfl), (by rw [HB'.out]; try rfl), HK.out⟩
          case measure => simp [intOf]; omega
        · rw [hy] at HB
          have HB' : Hid (cN q.B (k + 1) = nb + 1) := HB.out
          go_wp2
          go_roundw
          case rel => exact ⟨k + 1, by omega, by go_num, (by rw [HA'.out]; try rfl), (by rw [HB'.out]; try rfl), HK.out⟩
          case measure => simp [intOf]; omega
      · rw [hx] at HA
        have HA' : Hid (cN p.B (k + 1) = na + 1) := HA.out
        cases hy : (y != 0)
        · rw [hy] at HB
          have HB' : Hid (cN q.B (k + 1) = nb) := HB.out
          go_wp2
          go_roundw
          case rel => exact ⟨k + 1, by omega, by go_num, (by rw [HA'.out]; try rfl), (by rw [HB'.out]; try rfl), HK.out⟩
          case measure => simp [intOf]; omega
        · rw [hy] at HB
          have HB' : Hid (cN q.B (k + 1) = nb + 1) := HB.out
          go_wp2
          go_roundw
          case rel => exact ⟨k + 1, by omega, by go_num, (by rw [HA'.out]; try rfl), (by rw [HB'.out]; try rfl), HK.out⟩
          case measure => simp [intOf]; omega
    · obtain rfl : k = 64 := by omega
      have HP4 := Lib.hid (HP3.out.kept HK.out)
      have HQ4 := Lib.hid (HQ3.out.kept HK.out)
      have HM4 := Lib.hid (MAt.kept HM3.out HK.out)
      have z1 := HM4.out.f
      have z2 := HM4.out.t
      rw [HFt.out.1] at z1
      rw [HFt.out.2] at z2
      have z3 := HQ4.out.sq f f1
      have z4 := HQ4.out.sq t t1
      rw [hFq] at z3
      have z5 := HQ4.out.cas
      have z6 := HP4.out.cas
      have z7 := HQ4.out.turn
      have z8 := HP4.out.turn
      have hcI : (q.t == 1 - p.t) = true := by rw [htq]; simp
      have lb := HLq.out 64
      generalize q.B.getD t 0 = y at *
      generalize q.t = qt at *
      generalize q.c = qc at *
      clear hFq htq
      cases hb : takeB p m
      · rw [hb] at HN1
        have e0 : cN q.B 64 = cN p.B 64 := HN1.out
        rw [e0] at lb ⊢
        generalize cN p.B 64 = na at *
        have hnn : ((na : Int) == (na : Int)) = true := by simp
        clear e0 lb
        go_wp2
        go_ret
        exact ⟨rfl, HK3.out.trans HK.out⟩
      · rw [hb] at HN1
        have e0 : cN q.B 64 + 1 = cN p.B 64 := HN1.out
        rw [← e0]
        generalize cN q.B 64 = nb at *
        have e2 : IntKind.i64.wrap ((nb : Int) + 1) = ((nb + 1 : Nat) : Int) := by rw [IntWalk.i64_in _ (by omega)]; rfl
        clear e0
        obtain ⟨nc, hnc⟩ : ∃ n, n = nb + 1 := ⟨_, rfl⟩
        rw [← hnc] at e2 ⊢
        have hnn : ((nc : Int) == (nc : Int)) = true := by simp
        clear hnc lb
        go_wp2
        go_ret
        exact ⟨rfl, HK3.out.trans HK.out⟩
theorem walkMoveMen (p : Ps) (hB : Brd p.B) (m : Mv) (w : World) (hT : TabM w) :
    Calls Tryd.prog 4 #[.agg (pl p).toArray, .agg (ml m).toArray] w fun e w' => e = .returned (.bool true) ∧ Kept w w' := by
  cases h : okM p m
  · exact men_no p hB m h w hT
  · exact men_yes p hB m h w hT
end Go.Proofs.YtliibpahnkeogaaDoor
