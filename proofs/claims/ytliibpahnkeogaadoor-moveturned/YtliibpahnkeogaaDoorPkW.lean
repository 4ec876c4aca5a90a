/- The walk of MoveTurned. (Written by wip/mkmvw.py.). -/
import Derived.Test.YtliibpahnkeogaaDoorPkS
import Derived.Test.YtliibpahnkeogaaDoorPkV
namespace Go.Proofs.YtliibpahnkeogaaDoor
open Go.RowKit
set_option linter.unusedVariables false
set_option linter.unusedSimpArgs false
set_option maxRecDepth 100000

theorem take_build_mv {ops : Array Oper} {S : World → Prop} {op : Oper} {a : Act} (hw : Region.wanted op (yielded ops a.tmps) = true) (x0 x1 x2 : Operand) (ho : op.op = .build 28 #[(0, x0), (1, x1), (2, x2)])
    (f t p : Int) (h0 : a.eval x0 = .int .i64 f) (h1 : a.eval x1 = .int .i64 t) (h2 : a.eval x2 = .int .i64 p) : YieldsIf Tryd.prog ops S op (.agg (ml ⟨f, t, p⟩).toArray) a :=
  .inl ⟨hw, fun w _ => by
    have hp : ((#[(0, x0), (1, x1), (2, x2)] : Array (Nat × Operand)).map fun (i, x) => (i, a.eval x)).toList = [(0, .int .i64 f), (1, .int .i64 t), (2, .int .i64 p)] := by simp [h0, h1, h2]
    have hr : (Instr.build 28 ((#[(0, x0), (1, x1), (2, x2)] : Array (Nat × Operand)).map fun (i, x) => (i, a.eval x))).run Tryd.prog w = .ok (.agg (ml ⟨f, t, p⟩).toArray) w := by
      exact run_build w 28 _ _ (by rw [hp]; exact built_mv f t p)
    unfold execOp
    simp only [ho, Sem.run_bind, hr, Result.andThen_ok, Sem.run_pure]⟩
set_option maxHeartbeats 4000000 in
theorem turned_wrong (p : Ps) (hB : Brd p.B) (m : Mv) (h : pwI p ≠ 0) (w : World) (hT : TabM w) :
    Calls Tryd.prog 5 #[.agg (pl p).toArray, .agg (ml m).toArray] w fun e w' => e = .returned (.bool true) ∧ Kept w w' := by
  have HP : Hid (PAt _ _ p) := ⟨hB.1, heap_alloc2_old w (.cells (pl p).toArray 26) (.cells (ml m).toArray 28)⟩
  have HM : Hid (MAt _ _ m) := ⟨heap_alloc2_new w (.cells (pl p).toArray 26) (.cells (ml m).toArray 28)⟩
  have HK0 := Lib.hid (((Kept.refl w).alloc (.cells (pl p).toArray 26)).alloc (.cells (ml m).toArray 28))
  have HT := Lib.hid (hT.kept HK0.out)
  have HW := Lib.hid (rpwrong_is p hB)
  have hv : (pwI p != 0) = true := bne_iff_ne.2 h
  generalize pwI p = v at *
  clear hB hT h
  go_enter Tryd.func5, Tryd.ntmps5
  go_wp2_with fail
  refine (move_wake _ HT.out).mono ?_
  rintro e w1 ⟨rfl, k1⟩
  have HK1 := Lib.hid (HK0.out.trans k1)
  have HP1 := Lib.hid (HP.out.kept k1)
  have HM1 := Lib.hid (MAt.kept HM.out k1)
  have HT1 := Lib.hid (HT.out.kept k1)
  clear k1
  go_wp2_with (first | (refine wpList_load_ps (by rfl) _ rfl _ rfl _ (HP1.out) ?_) | (refine wpList_load_pb (by rfl) _ rfl _ rfl _ (HP1.out) ?_) | (refine wpList_load_mv (by rfl) _ rfl _ rfl _ (HM1.out) ?_))
  refine (HW.out _).mono ?_
  rintro e w2 ⟨rfl, k2⟩
  have HK2 := Lib.hid (HK1.out.trans k2)
  have HP2 := Lib.hid (HP1.out.kept k2)
  have HM2 := Lib.hid (MAt.kept HM1.out k2)
  have HT2 := Lib.hid (HT1.out.kept k2)
  clear k2
  go_wp2
  go_ret
  exact ⟨rfl, HK2.out⟩
set_option maxHeartbeats 4000000 in
theorem turned_no (p : Ps) (hB : Brd p.B) (m : Mv) (h : pwI p = 0) (hf : formB p m = false) (w : World) (hT : TabM w) :
    Calls Tryd.prog 5 #[.agg (pl p).toArray, .agg (ml m).toArray] w fun e w' => e = .returned (.bool true) ∧ Kept w w' := by
  have HP : Hid (PAt _ _ p) := ⟨hB.1, heap_alloc2_old w (.cells (pl p).toArray 26) (.cells (ml m).toArray 28)⟩
  have HM : Hid (MAt _ _ m) := ⟨heap_alloc2_new w (.cells (pl p).toArray 26) (.cells (ml m).toArray 28)⟩
  have HK0 := Lib.hid (((Kept.refl w).alloc (.cells (pl p).toArray 26)).alloc (.cells (ml m).toArray 28))
  have HT := Lib.hid (hT.kept HK0.out)
  have HW := Lib.hid (rpwrong_is p hB)
  have HF := Lib.hid (fun w => rformed_is p hB (right_t h).1 m w)
  rw [h] at HW
  rw [hf] at HF
  clear hB hT h hf
  go_enter Tryd.func5, Tryd.ntmps5
  go_wp2_with fail
  refine (move_wake _ HT.out).mono ?_
  rintro e w1 ⟨rfl, k1⟩
  have HK1 := Lib.hid (HK0.out.trans k1)
  have HP1 := Lib.hid (HP.out.kept k1)
  have HM1 := Lib.hid (MAt.kept HM.out k1)
  have HT1 := Lib.hid (HT.out.kept k1)
  clear k1
  go_wp2_with (first | (refine wpList_load_ps (by rfl) _ rfl _ rfl _ (HP1.out) ?_) | (refine wpList_load_pb (by rfl) _ rfl _ rfl _ (HP1.out) ?_) | (refine wpList_load_mv (by rfl) _ rfl _ rfl _ (HM1.out) ?_))
  refine (HW.out _).mono ?_
  rintro e w2 ⟨rfl, k2⟩
  have HK2 := Lib.hid (HK1.out.trans k2)
  have HP2 := Lib.hid (HP1.out.kept k2)
  have HM2 := Lib.hid (MAt.kept HM1.out k2)
  have HT2 := Lib.hid (HT1.out.kept k2)
  clear k2
  go_wp2_with (first | (refine wpList_load_ps (by rfl) _ rfl _ rfl _ (HP2.out) ?_) | (refine wpList_load_pb (by rfl) _ rfl _ rfl _ (HP2.out) ?_) | (refine wpList_load_mv (by rfl) _ rfl _ rfl _ (HM2.out) ?_))
  refine (HF.out _).mono ?_
  rintro e w3 ⟨rfl, k3⟩
  have HK3 := Lib.hid (HK2.out.trans k3)
  clear k3
  go_wp2
  go_ret
  exact ⟨rfl, HK3.out⟩
set_option maxHeartbeats 4000000 in
theorem turned_yes (p : Ps) (hB : Brd p.B) (m : Mv) (h : okM p m = true) (w : World) (hT : TabM w) :
    Calls Tryd.prog 5 #[.agg (pl p).toArray, .agg (ml m).toArray] w fun e w' => e = .returned (.bool true) ∧ Kept w w' := by
  obtain ⟨hv, hf⟩ := okM_right h
  obtain ⟨f, t, hFm⟩ := form_of hB h
  have hT2 := hFm.turn
  have HP : Hid (PAt _ _ p) := ⟨hB.1, heap_alloc2_old w (.cells (pl p).toArray 26) (.cells (ml m).toArray 28)⟩
  have HM : Hid (MAt _ _ m) := ⟨heap_alloc2_new w (.cells (pl p).toArray 26) (.cells (ml m).toArray 28)⟩
  have HK0 := Lib.hid (((Kept.refl w).alloc (.cells (pl p).toArray 26)).alloc (.cells (ml m).toArray 28))
  have HT := Lib.hid (hT.kept HK0.out)
  have HW := Lib.hid (rpwrong_is p hB)
  have HF := Lib.hid (fun w => rformed_is p hB (right_t hv).1 m w)
  have HC1 := Lib.hid (fun w hw => make_yes p hB m h w hw)
  have HC2 := Lib.hid (fun w => pturned_at p hB hv w)
  have HC3 := Lib.hid (fun w hw => make_yes (turnP p) (turn_brd hB) (turnM m) hT2.ok w hw)
  have hbq : Brd (behP p m).B := (behB_ok hFm).brd
  obtain ⟨t01, ⟨c0, c1⟩, _⟩ := right_t hv
  have rb := rt_bd c0 c1 m
  have eb := epI_bd hFm
  have HC4 := Lib.hid (fun w => rpturned_is (behP p m) hbq (by show otherI p.t = 0 ∨ otherI p.t = 1; rw [other_at t01]; omega) rb.1 rb.2.1 eb.1 eb.2 w)
  rw [behP_turn hFm] at HC3
  rw [hv] at HW
  rw [hf] at HF
  have x1 := xor_at (x := m.f) (by have := hFm.hf; omega) (by have := hFm.hf; have := hFm.f1; omega)
  have x2 := xor_at (x := m.t) (by have := hFm.ht; omega) (by have := hFm.ht; have := hFm.t1; omega)
  have hpl : Hid (p.B.length = 64) := hB.1
  have hql : Hid ((behP p m).B.length = 64) := behB_len hB.1
  have htl : Hid ((turnP (behP p m)).B.length = 64) := tab_length _
  clear hB hT h hf hv hFm hT2 t01 c0 c1 rb eb hbq
  generalize behP p m = q at *
  have HTM : Hid (turnM m = ⟨flI m.f, flI m.t, m.p⟩) := rfl
  generalize turnM m = mT at *
  generalize flI m.f = ff at *
  generalize flI m.t = ft at *
  obtain rfl : mT = ⟨ff, ft, m.p⟩ := HTM.out
  go_enter Tryd.func5, Tryd.ntmps5
  go_wp2_with fail
  refine (move_wake _ HT.out).mono ?_
  rintro e w1 ⟨rfl, k1⟩
  have HK1 := Lib.hid (HK0.out.trans k1)
  have HP1 := Lib.hid (HP.out.kept k1)
  have HM1 := Lib.hid (MAt.kept HM.out k1)
  have HT1 := Lib.hid (HT.out.kept k1)
  clear k1
  go_wp2_with (first | (refine wpList_load_ps (by rfl) _ rfl _ rfl _ (HP1.out) ?_) | (refine wpList_load_pb (by rfl) _ rfl _ rfl _ (HP1.out) ?_) | (refine wpList_load_mv (by rfl) _ rfl _ rfl _ (HM1.out) ?_))
  refine (HW.out _).mono ?_
  rintro e w2 ⟨rfl, k2⟩
  have HK2 := Lib.hid (HK1.out.trans k2)
  have HP2 := Lib.hid (HP1.out.kept k2)
  have HM2 := Lib.hid (MAt.kept HM1.out k2)
  have HT2 := Lib.hid (HT1.out.kept k2)
  clear k2
  go_wp2_with (first | (refine wpList_load_ps (by rfl) _ rfl _ rfl _ (HP2.out) ?_) | (refine wpList_load_pb (by rfl) _ rfl _ rfl _ (HP2.out) ?_) | (refine wpList_load_mv (by rfl) _ rfl _ rfl _ (HM2.out) ?_))
  refine (HF.out _).mono ?_
  rintro e w3 ⟨rfl, k3⟩
  have HK3 := Lib.hid (HK2.out.trans k3)
  have HP3 := Lib.hid (HP2.out.kept k3)
  have HM3 := Lib.hid (MAt.kept HM2.out k3)
  have HT3 := Lib.hid (HT2.out.kept k3)
  clear k3
  go_wp2_with (first | (refine wpList_load_ps (by rfl) _ rfl _ rfl _ (HP3.out) ?_) | (refine wpList_load_pb (by rfl) _ rfl _ rfl _ (HP3.out) ?_) | (refine wpList_load_mv (by rfl) _ rfl _ rfl _ (HM3.out) ?_))
  refine (HC1.out _ HT3.out).mono ?_
  rintro e w4 ⟨rfl, k4⟩
  have KA := Lib.hid (k4.alloc (.cells (pl q).toArray 26))
  have HK4 := Lib.hid (HK3.out.trans KA.out)
  have HQ4 := Lib.hid (PAt.new w4 hql.out)
  have HP4 := Lib.hid (HP3.out.kept KA.out)
  have HM4 := Lib.hid (MAt.kept HM3.out KA.out)
  have HT4 := Lib.hid (HT3.out.kept KA.out)
  clear k4 KA
  go_wp2_with (first | (with_reducible refine wpList_new_p rfl rfl ?_) | ((with_reducible refine wpList_store_newp rfl _ _ rfl Zp q Zp_len hql.out ?_ ?_ ?_); exact rfl; exact rfl))
  generalize w4.alloc (.cells (pl q).toArray 26) = W at *
  generalize w4.heap.size = gq at *
  refine wp_region_held_drew (S := Kept _) (by kernel_rfl) (Kept.refl _).drew (fun hHeld => ?_)
  refine rg_take (i := 0) (some 27) rfl rfl (by kernel_rfl) (by kernel_rfl) (by kernel_rfl) (fun _ _ _ h => h) (take_load_ps (by rfl) _ rfl _ rfl p hpl.out (fun _ h => (HP4.out).kept h)) hHeld ?_
  simp only [Act.put, List.setIfInBounds_toArray, List.set_cons_zero, List.set_cons_succ]
  refine rg_take (i := 2) (v := (.pointer (some ⟨w.heap.size + 1, 0, none⟩))) (some 29) rfl rfl (by kernel_rfl) (by kernel_rfl) (by kernel_rfl) (fun _ _ _ h => h) (Or.inl ⟨by rfl, fun _ _ => by go_simp⟩) hHeld ?_
  simp only [Act.put, List.setIfInBounds_toArray, List.set_cons_zero, List.set_cons_succ]
  refine rg_take (i := 3) (v := (.int .i64 m.f)) (some 30) rfl rfl (by kernel_rfl) (by kernel_rfl) (by kernel_rfl) (fun _ _ _ h => h) (Or.inl ⟨by rfl, fun w' h => by have h' := kept_cell h (HM4.out.f); go_simp⟩) hHeld ?_
  simp only [Act.put, List.setIfInBounds_toArray, List.set_cons_zero, List.set_cons_succ]
  refine rg_take (i := 4) (v := (.int .i64 ff)) (some 31) rfl rfl (by kernel_rfl) (by kernel_rfl) (by kernel_rfl) (fun _ _ _ h => h) (Or.inl ⟨by rfl, fun _ _ => by go_simp⟩) hHeld ?_
  simp only [Act.put, List.setIfInBounds_toArray, List.set_cons_zero, List.set_cons_succ]
  refine rg_take (i := 5) (v := (.pointer (some ⟨w.heap.size + 1, 1, none⟩))) (some 32) rfl rfl (by kernel_rfl) (by kernel_rfl) (by kernel_rfl) (fun _ _ _ h => h) (Or.inl ⟨by rfl, fun _ _ => by go_simp⟩) hHeld ?_
  simp only [Act.put, List.setIfInBounds_toArray, List.set_cons_zero, List.set_cons_succ]
  refine rg_take (i := 6) (v := (.int .i64 m.t)) (some 33) rfl rfl (by kernel_rfl) (by kernel_rfl) (by kernel_rfl) (fun _ _ _ h => h) (Or.inl ⟨by rfl, fun w' h => by have h' := kept_cell h (HM4.out.t); go_simp⟩) hHeld ?_
  simp only [Act.put, List.setIfInBounds_toArray, List.set_cons_zero, List.set_cons_succ]
  refine rg_take (i := 7) (v := (.int .i64 ft)) (some 34) rfl rfl (by kernel_rfl) (by kernel_rfl) (by kernel_rfl) (fun _ _ _ h => h) (Or.inl ⟨by rfl, fun _ _ => by go_simp⟩) hHeld ?_
  simp only [Act.put, List.setIfInBounds_toArray, List.set_cons_zero, List.set_cons_succ]
  refine rg_take (i := 8) (v := (.pointer (some ⟨w.heap.size + 1, 2, none⟩))) (some 35) rfl rfl (by kernel_rfl) (by kernel_rfl) (by kernel_rfl) (fun _ _ _ h => h) (Or.inl ⟨by rfl, fun _ _ => by go_simp⟩) hHeld ?_
  simp only [Act.put, List.setIfInBounds_toArray, List.set_cons_zero, List.set_cons_succ]
  refine rg_take (i := 9) (v := (.int .i64 m.p)) (some 36) rfl rfl (by kernel_rfl) (by kernel_rfl) (by kernel_rfl) (fun _ _ _ h => h) (Or.inl ⟨by rfl, fun w' h => by have h' := kept_cell h (HM4.out.p); go_simp⟩) hHeld ?_
  simp only [Act.put, List.setIfInBounds_toArray, List.set_cons_zero, List.set_cons_succ]
  refine rg_take (i := 10) (some 37) rfl rfl (by kernel_rfl) (by kernel_rfl) (by kernel_rfl) (fun _ _ _ h => h) (take_build_mv (by rfl) _ _ _ rfl ff ft m.p rfl rfl rfl) hHeld ?_
  simp only [Act.put, List.setIfInBounds_toArray, List.set_cons_zero, List.set_cons_succ]
  refine wpAnyH_ready (rs := [1, 15]) (by kernel_rfl) (by simp) ?_
  refine AllReadyH.cons rfl (fun K hK => ?_) (AllReadyH.cons rfl (fun K hK => ?_) AllReadyH.nil)
  · skip
    go_simp
    refine (HC2.out _).mono ?_
    rintro e v1 ⟨rfl, kx⟩
    refine hK.out _ _ (hHeld.trans kx) (fun _ => ?_)
    replace hHeld := hHeld.trans kx
    clear hK K kx
    refine wpAnyH_ready (rs := [11, 15]) (by kernel_rfl) (by simp) ?_
    refine AllReadyH.cons rfl (fun K hK => ?_) (AllReadyH.cons rfl (fun K hK => ?_) AllReadyH.nil)
    · skip
      go_simp
      refine (HC3.out _ (HT4.out.kept hHeld)).mono ?_
      rintro e v2 ⟨rfl, kx⟩
      refine hK.out _ _ (hHeld.trans kx) (fun _ => ?_)
      replace hHeld := hHeld.trans kx
      clear hK K kx
      refine rg_take (i := 12) (v := (.tuple #[.agg (pl (turnP q)).toArray, .int .i64 0])) (some 26) rfl rfl (by kernel_rfl) (by kernel_rfl) (by kernel_rfl) (fun _ _ _ h => h) (Or.inl ⟨by rfl, fun _ _ => by go_simp⟩) hHeld ?_
      simp only [Act.put, List.setIfInBounds_toArray, List.set_cons_zero, List.set_cons_succ]
      refine rg_take (i := 13) (v := (.agg (pl (turnP q)).toArray)) (some 39) rfl rfl (by kernel_rfl) (by kernel_rfl) (by kernel_rfl) (fun _ _ _ h => h) (Or.inl ⟨by rfl, fun _ _ => by go_simp⟩) hHeld ?_
      simp only [Act.put, List.setIfInBounds_toArray, List.set_cons_zero, List.set_cons_succ]
      refine rg_take (i := 14) (v := (.int .i64 0)) (some 40) rfl rfl (by kernel_rfl) (by kernel_rfl) (by kernel_rfl) (fun _ _ _ h => h) (Or.inl ⟨by rfl, fun _ _ => by go_simp⟩) hHeld ?_
      simp only [Act.put, List.setIfInBounds_toArray, List.set_cons_zero, List.set_cons_succ]
      refine wpAnyH_ready (rs := [15]) (by kernel_rfl) (by simp) ?_
      refine AllReadyH.cons rfl (fun K hK => ?_) AllReadyH.nil
      rw [if_pos (by rfl)]
      refine wp_new_p rfl ?_
      have hN := PAt.new v2 Zp_len
      have HG := Lib.hid hHeld.size
      refine hK.out _ _ (hHeld.alloc _) (fun _ => ?_)
      replace hHeld := hHeld.alloc (.cells (pl Zp).toArray 26)
      clear hK K
      simp only [List.getElem_toArray, List.getElem_cons_succ, List.getElem_cons_zero, Act.put, List.setIfInBounds_toArray, List.set_cons_zero, List.set_cons_succ]
      generalize v2.alloc (.cells (pl Zp).toArray 26) = v3 at *
      generalize v2.heap.size = gr at *
      have HN := Lib.hid hN
      clear hN
      refine wpAnyH_ready (rs := [16]) (by kernel_rfl) (by simp) ?_
      refine AllReadyH.cons rfl (fun K hK => ?_) AllReadyH.nil
      rw [if_pos (by rfl)]
      refine wp_store_row 26 _ _ rfl gr (pl (turnP q)).toArray rfl rfl 26 _ HN.out.at_ (size_pl htl.out) (by rw [pl_size Zp_len, pl_size htl.out]) (pl_one _) ?_
      have HKx := Lib.hid (hHeld.setRow (g := gr) HG.out (pl (turnP q)).toArray)
      have HX := Lib.hid (HN.out.setRow htl.out)
      refine hK.out _ _ HKx.out (fun _ => ?_)
      replace hHeld := HKx.out
      clear hK K HN
      generalize v3.setRow gr (pl (turnP q)).toArray = wx at *
      refine rg_take (i := 17) (v := (.int .i64 0)) (some 8) rfl rfl (by kernel_rfl) (by kernel_rfl) (by kernel_rfl) (fun _ _ _ h => h) (Or.inl ⟨by rfl, fun _ _ => by go_simp⟩) hHeld ?_
      simp only [Act.put, List.setIfInBounds_toArray, List.set_cons_zero, List.set_cons_succ]
      refine wpAnyH_done (by kernel_rfl) ?_ _
      have HQ5 := Lib.hid (HQ4.out.kept HKx.out)
      have HK5 := Lib.hid (HK4.out.trans HKx.out)
      clear hHeld
      go_wp2
      refine wp_region_held_drew (S := Kept _) (by kernel_rfl) (Kept.refl _).drew (fun hHeld => ?_)
      refine rg_take (i := 0) (v := (.int .i64 0)) (some 41) rfl rfl (by kernel_rfl) (by kernel_rfl) (by kernel_rfl) (fun _ _ _ h => h) (Or.inl ⟨by rfl, fun _ _ => by go_simp⟩) hHeld ?_
      simp only [Act.put, List.setIfInBounds_toArray, List.set_cons_zero, List.set_cons_succ]
      refine rg_take (i := 1) (v := (.bool true)) (some 42) rfl rfl (by kernel_rfl) (by kernel_rfl) (by kernel_rfl) (fun _ _ _ h => h) (Or.inl ⟨by rfl, fun _ _ => by go_simp⟩) hHeld ?_
      simp only [Act.put, List.setIfInBounds_toArray, List.set_cons_zero, List.set_cons_succ]
      refine rg_take (i := 2) (v := (.bool true)) (some 43) rfl rfl (by kernel_rfl) (by kernel_rfl) (by kernel_rfl) (fun _ _ _ h => h) (Or.inl ⟨by rfl, fun _ _ => by go_simp⟩) hHeld ?_
      simp only [Act.put, List.setIfInBounds_toArray, List.set_cons_zero, List.set_cons_succ]
      refine rg_take (i := 3) (v := (.int .i64 0)) (some 44) rfl rfl (by kernel_rfl) (by kernel_rfl) (by kernel_rfl) (fun _ _ _ h => h) (Or.inl ⟨by rfl, fun _ _ => by go_simp⟩) hHeld ?_
      simp only [Act.put, List.setIfInBounds_toArray, List.set_cons_zero, List.set_cons_succ]
      refine rg_take (i := 4) (v := (.bool true)) (some 45) rfl rfl (by kernel_rfl) (by kernel_rfl) (by kernel_rfl) (fun _ _ _ h => h) (Or.inl ⟨by rfl, fun _ _ => by go_simp⟩) hHeld ?_
      simp only [Act.put, List.setIfInBounds_toArray, List.set_cons_zero, List.set_cons_succ]
      refine rg_take (i := 5) (v := (.bool true)) (some 46) rfl rfl (by kernel_rfl) (by kernel_rfl) (by kernel_rfl) (fun _ _ _ h => h) (Or.inl ⟨by rfl, fun _ _ => by go_simp⟩) hHeld ?_
      simp only [Act.put, List.setIfInBounds_toArray, List.set_cons_zero, List.set_cons_succ]
      refine rg_take (i := 6) (v := (.bool true)) (some 47) rfl rfl (by kernel_rfl) (by kernel_rfl) (by kernel_rfl) (fun _ _ _ h => h) (Or.inl ⟨by rfl, fun _ _ => by go_simp⟩) hHeld ?_
      simp only [Act.put, List.setIfInBounds_toArray, List.set_cons_zero, List.set_cons_succ]
      refine rg_take (i := 7) (some 48) rfl rfl (by kernel_rfl) (by kernel_rfl) (by kernel_rfl) (fun _ _ _ h => h) (take_load_ps (by rfl) _ rfl _ rfl (turnP q) htl.out (fun _ h => (HX.out).kept h)) hHeld ?_
      simp only [Act.put, List.setIfInBounds_toArray, List.set_cons_zero, List.set_cons_succ]
      refine rg_take (i := 8) (some 49) rfl rfl (by kernel_rfl) (by kernel_rfl) (by kernel_rfl) (fun _ _ _ h => h) (take_load_ps (by rfl) _ rfl _ rfl q hql.out (fun _ h => (HQ5.out).kept h)) hHeld ?_
      simp only [Act.put, List.setIfInBounds_toArray, List.set_cons_zero, List.set_cons_succ]
      refine wpAnyH_ready (rs := [9]) (by kernel_rfl) (by simp) ?_
      refine AllReadyH.cons rfl (fun K hK => ?_) AllReadyH.nil
      go_simp
      refine (HC4.out _).mono ?_
      rintro e wy ⟨rfl, gwy⟩
      refine hK.out _ _ (hHeld.trans gwy) (fun _ => ?_)
      replace hHeld := hHeld.trans gwy
      clear hK K
      refine rg_take (i := 10) (some 51) rfl rfl (by kernel_rfl) (by kernel_rfl) (by kernel_rfl) (fun _ _ _ h => h) (take_eql_p (by rfl) _ _ _ rfl (turnP q) (turnP q) rfl rfl (⟨htl.out, htl.out, beqP_refl _⟩)) hHeld ?_
      simp only [Act.put, List.setIfInBounds_toArray, List.set_cons_zero, List.set_cons_succ]
      refine rg_take (i := 11) (v := (.bool true)) (some 52) rfl rfl (by kernel_rfl) (by kernel_rfl) (by kernel_rfl) (fun _ _ _ h => h) (Or.inl ⟨by rfl, fun _ _ => by go_simp⟩) hHeld ?_
      simp only [Act.put, List.setIfInBounds_toArray, List.set_cons_zero, List.set_cons_succ]
      refine rg_take (i := 12) (v := (.bool true)) (some 4) rfl rfl (by kernel_rfl) (by kernel_rfl) (by kernel_rfl) (fun _ _ _ h => h) (Or.inl ⟨by rfl, fun _ _ => by go_simp⟩) hHeld ?_
      simp only [Act.put, List.setIfInBounds_toArray, List.set_cons_zero, List.set_cons_succ]
      refine wpAnyH_done (by kernel_rfl) ?_ _
      go_wp2
      go_ret
      exact ⟨rfl, HK5.out.trans hHeld⟩
    · skip
      rw [if_pos (by rfl)]
      refine wp_new_p rfl ?_
      have hN := PAt.new v1 Zp_len
      have HG := Lib.hid hHeld.size
      refine hK.out _ _ (hHeld.alloc _) (fun _ => ?_)
      replace hHeld := hHeld.alloc (.cells (pl Zp).toArray 26)
      clear hK K
      simp only [List.getElem_toArray, List.getElem_cons_succ, List.getElem_cons_zero, Act.put, List.setIfInBounds_toArray, List.set_cons_zero, List.set_cons_succ]
      generalize v1.alloc (.cells (pl Zp).toArray 26) = v2 at *
      generalize v1.heap.size = gr at *
      refine wpAnyH_ready (rs := [11]) (by kernel_rfl) (by simp) ?_
      refine AllReadyH.cons rfl (fun K hK => ?_) AllReadyH.nil
      go_simp
      refine (HC3.out _ (HT4.out.kept hHeld)).mono ?_
      rintro e v3 ⟨rfl, kx⟩
      replace hN := hN.kept kx
      refine hK.out _ _ (hHeld.trans kx) (fun _ => ?_)
      replace hHeld := hHeld.trans kx
      clear hK K kx
      refine rg_take (i := 12) (v := (.tuple #[.agg (pl (turnP q)).toArray, .int .i64 0])) (some 26) rfl rfl (by kernel_rfl) (by kernel_rfl) (by kernel_rfl) (fun _ _ _ h => h) (Or.inl ⟨by rfl, fun _ _ => by go_simp⟩) hHeld ?_
      simp only [Act.put, List.setIfInBounds_toArray, List.set_cons_zero, List.set_cons_succ]
      refine rg_take (i := 13) (v := (.agg (pl (turnP q)).toArray)) (some 39) rfl rfl (by kernel_rfl) (by kernel_rfl) (by kernel_rfl) (fun _ _ _ h => h) (Or.inl ⟨by rfl, fun _ _ => by go_simp⟩) hHeld ?_
      simp only [Act.put, List.setIfInBounds_toArray, List.set_cons_zero, List.set_cons_succ]
      refine rg_take (i := 14) (v := (.int .i64 0)) (some 40) rfl rfl (by kernel_rfl) (by kernel_rfl) (by kernel_rfl) (fun _ _ _ h => h) (Or.inl ⟨by rfl, fun _ _ => by go_simp⟩) hHeld ?_
      simp only [Act.put, List.setIfInBounds_toArray, List.set_cons_zero, List.set_cons_succ]
      have HN := Lib.hid hN
      clear hN
      refine wpAnyH_ready (rs := [16]) (by kernel_rfl) (by simp) ?_
      refine AllReadyH.cons rfl (fun K hK => ?_) AllReadyH.nil
      rw [if_pos (by rfl)]
      refine wp_store_row 26 _ _ rfl gr (pl (turnP q)).toArray rfl rfl 26 _ HN.out.at_ (size_pl htl.out) (by rw [pl_size Zp_len, pl_size htl.out]) (pl_one _) ?_
      have HKx := Lib.hid (hHeld.setRow (g := gr) HG.out (pl (turnP q)).toArray)
      have HX := Lib.hid (HN.out.setRow htl.out)
      refine hK.out _ _ HKx.out (fun _ => ?_)
      replace hHeld := HKx.out
      clear hK K HN
      generalize v3.setRow gr (pl (turnP q)).toArray = wx at *
      refine rg_take (i := 17) (v := (.int .i64 0)) (some 8) rfl rfl (by kernel_rfl) (by kernel_rfl) (by kernel_rfl) (fun _ _ _ h => h) (Or.inl ⟨by rfl, fun _ _ => by go_simp⟩) hHeld ?_
      simp only [Act.put, List.setIfInBounds_toArray, List.set_cons_zero, List.set_cons_succ]
      refine wpAnyH_done (by kernel_rfl) ?_ _
      have HQ5 := Lib.hid (HQ4.out.kept HKx.out)
      have HK5 := Lib.hid (HK4.out.trans HKx.out)
      clear hHeld
      go_wp2
      refine wp_region_held_drew (S := Kept _) (by kernel_rfl) (Kept.refl _).drew (fun hHeld => ?_)
      refine rg_take (i := 0) (v := (.int .i64 0)) (some 41) rfl rfl (by kernel_rfl) (by kernel_rfl) (by kernel_rfl) (fun _ _ _ h => h) (Or.inl ⟨by rfl, fun _ _ => by go_simp⟩) hHeld ?_
      simp only [Act.put, List.setIfInBounds_toArray, List.set_cons_zero, List.set_cons_succ]
      refine rg_take (i := 1) (v := (.bool true)) (some 42) rfl rfl (by kernel_rfl) (by kernel_rfl) (by kernel_rfl) (fun _ _ _ h => h) (Or.inl ⟨by rfl, fun _ _ => by go_simp⟩) hHeld ?_
      simp only [Act.put, List.setIfInBounds_toArray, List.set_cons_zero, List.set_cons_succ]
      refine rg_take (i := 2) (v := (.bool true)) (some 43) rfl rfl (by kernel_rfl) (by kernel_rfl) (by kernel_rfl) (fun _ _ _ h => h) (Or.inl ⟨by rfl, fun _ _ => by go_simp⟩) hHeld ?_
      simp only [Act.put, List.setIfInBounds_toArray, List.set_cons_zero, List.set_cons_succ]
      refine rg_take (i := 3) (v := (.int .i64 0)) (some 44) rfl rfl (by kernel_rfl) (by kernel_rfl) (by kernel_rfl) (fun _ _ _ h => h) (Or.inl ⟨by rfl, fun _ _ => by go_simp⟩) hHeld ?_
      simp only [Act.put, List.setIfInBounds_toArray, List.set_cons_zero, List.set_cons_succ]
      refine rg_take (i := 4) (v := (.bool true)) (some 45) rfl rfl (by kernel_rfl) (by kernel_rfl) (by kernel_rfl) (fun _ _ _ h => h) (Or.inl ⟨by rfl, fun _ _ => by go_simp⟩) hHeld ?_
      simp only [Act.put, List.setIfInBounds_toArray, List.set_cons_zero, List.set_cons_succ]
      refine rg_take (i := 5) (v := (.bool true)) (some 46) rfl rfl (by kernel_rfl) (by kernel_rfl) (by kernel_rfl) (fun _ _ _ h => h) (Or.inl ⟨by rfl, fun _ _ => by go_simp⟩) hHeld ?_
      simp only [Act.put, List.setIfInBounds_toArray, List.set_cons_zero, List.set_cons_succ]
      refine rg_take (i := 6) (v := (.bool true)) (some 47) rfl rfl (by kernel_rfl) (by kernel_rfl) (by kernel_rfl) (fun _ _ _ h => h) (Or.inl ⟨by rfl, fun _ _ => by go_simp⟩) hHeld ?_
      simp only [Act.put, List.setIfInBounds_toArray, List.set_cons_zero, List.set_cons_succ]
      refine rg_take (i := 7) (some 48) rfl rfl (by kernel_rfl) (by kernel_rfl) (by kernel_rfl) (fun _ _ _ h => h) (take_load_ps (by rfl) _ rfl _ rfl (turnP q) htl.out (fun _ h => (HX.out).kept h)) hHeld ?_
      simp only [Act.put, List.setIfInBounds_toArray, List.set_cons_zero, List.set_cons_succ]
      refine rg_take (i := 8) (some 49) rfl rfl (by kernel_rfl) (by kernel_rfl) (by kernel_rfl) (fun _ _ _ h => h) (take_load_ps (by rfl) _ rfl _ rfl q hql.out (fun _ h => (HQ5.out).kept h)) hHeld ?_
      simp only [Act.put, List.setIfInBounds_toArray, List.set_cons_zero, List.set_cons_succ]
      refine wpAnyH_ready (rs := [9]) (by kernel_rfl) (by simp) ?_
      refine AllReadyH.cons rfl (fun K hK => ?_) AllReadyH.nil
      go_simp
      refine (HC4.out _).mono ?_
      rintro e wy ⟨rfl, gwy⟩
      refine hK.out _ _ (hHeld.trans gwy) (fun _ => ?_)
      replace hHeld := hHeld.trans gwy
      clear hK K
      refine rg_take (i := 10) (some 51) rfl rfl (by kernel_rfl) (by kernel_rfl) (by kernel_rfl) (fun _ _ _ h => h) (take_eql_p (by rfl) _ _ _ rfl (turnP q) (turnP q) rfl rfl (⟨htl.out, htl.out, beqP_refl _⟩)) hHeld ?_
      simp only [Act.put, List.setIfInBounds_toArray, List.set_cons_zero, List.set_cons_succ]
      refine rg_take (i := 11) (v := (.bool true)) (some 52) rfl rfl (by kernel_rfl) (by kernel_rfl) (by kernel_rfl) (fun _ _ _ h => h) (Or.inl ⟨by rfl, fun _ _ => by go_simp⟩) hHeld ?_
      simp only [Act.put, List.setIfInBounds_toArray, List.set_cons_zero, List.set_cons_succ]
      refine rg_take (i := 12) (v := (.bool true)) (some 4) rfl rfl (by kernel_rfl) (by kernel_rfl) (by kernel_rfl) (fun _ _ _ h => h) (Or.inl ⟨by rfl, fun _ _ => by go_simp⟩) hHeld ?_
      simp only [Act.put, List.setIfInBounds_toArray, List.set_cons_zero, List.set_cons_succ]
      refine wpAnyH_done (by kernel_rfl) ?_ _
      go_wp2
      go_ret
      exact ⟨rfl, HK5.out.trans hHeld⟩
  · skip
    rw [if_pos (by rfl)]
    refine wp_new_p rfl ?_
    have hN := PAt.new W.drew Zp_len
    have HG := Lib.hid hHeld.size
    refine hK.out _ _ (hHeld.alloc _) (fun _ => ?_)
    replace hHeld := hHeld.alloc (.cells (pl Zp).toArray 26)
    clear hK K
    simp only [List.getElem_toArray, List.getElem_cons_succ, List.getElem_cons_zero, Act.put, List.setIfInBounds_toArray, List.set_cons_zero, List.set_cons_succ]
    generalize W.drew.alloc (.cells (pl Zp).toArray 26) = v1 at *
    generalize W.drew.heap.size = gr at *
    refine wpAnyH_ready (rs := [1]) (by kernel_rfl) (by simp) ?_
    refine AllReadyH.cons rfl (fun K hK => ?_) AllReadyH.nil
    go_simp
    refine (HC2.out _).mono ?_
    rintro e v2 ⟨rfl, kx⟩
    replace hN := hN.kept kx
    refine hK.out _ _ (hHeld.trans kx) (fun _ => ?_)
    replace hHeld := hHeld.trans kx
    clear hK K kx
    refine wpAnyH_ready (rs := [11]) (by kernel_rfl) (by simp) ?_
    refine AllReadyH.cons rfl (fun K hK => ?_) AllReadyH.nil
    go_simp
    refine (HC3.out _ (HT4.out.kept hHeld)).mono ?_
    rintro e v3 ⟨rfl, kx⟩
    replace hN := hN.kept kx
    refine hK.out _ _ (hHeld.trans kx) (fun _ => ?_)
    replace hHeld := hHeld.trans kx
    clear hK K kx
    refine rg_take (i := 12) (v := (.tuple #[.agg (pl (turnP q)).toArray, .int .i64 0])) (some 26) rfl rfl (by kernel_rfl) (by kernel_rfl) (by kernel_rfl) (fun _ _ _ h => h) (Or.inl ⟨by rfl, fun _ _ => by go_simp⟩) hHeld ?_
    simp only [Act.put, List.setIfInBounds_toArray, List.set_cons_zero, List.set_cons_succ]
    refine rg_take (i := 13) (v := (.agg (pl (turnP q)).toArray)) (some 39) rfl rfl (by kernel_rfl) (by kernel_rfl) (by kernel_rfl) (fun _ _ _ h => h) (Or.inl ⟨by rfl, fun _ _ => by go_simp⟩) hHeld ?_
    simp only [Act.put, List.setIfInBounds_toArray, List.set_cons_zero, List.set_cons_succ]
    refine rg_take (i := 14) (v := (.int .i64 0)) (some 40) rfl rfl (by kernel_rfl) (by kernel_rfl) (by kernel_rfl) (fun _ _ _ h => h) (Or.inl ⟨by rfl, fun _ _ => by go_simp⟩) hHeld ?_
    simp only [Act.put, List.setIfInBounds_toArray, List.set_cons_zero, List.set_cons_succ]
    have HN := Lib.hid hN
    clear hN
    refine wpAnyH_ready (rs := [16]) (by kernel_rfl) (by simp) ?_
    refine AllReadyH.cons rfl (fun K hK => ?_) AllReadyH.nil
    rw [if_pos (by rfl)]
    refine wp_store_row 26 _ _ rfl gr (pl (turnP q)).toArray rfl rfl 26 _ HN.out.at_ (size_pl htl.out) (by rw [pl_size Zp_len, pl_size htl.out]) (pl_one _) ?_
    have HKx := Lib.hid (hHeld.setRow (g := gr) HG.out (pl (turnP q)).toArray)
    have HX := Lib.hid (HN.out.setRow htl.out)
    refine hK.out _ _ HKx.out (fun _ => ?_)
    replace hHeld := HKx.out
    clear hK K HN
    generalize v3.setRow gr (pl (turnP q)).toArray = wx at *
    refine rg_take (i := 17) (v := (.int .i64 0)) (some 8) rfl rfl (by kernel_rfl) (by kernel_rfl) (by kernel_rfl) (fun _ _ _ h => h) (Or.inl ⟨by rfl, fun _ _ => by go_simp⟩) hHeld ?_
    simp only [Act.put, List.setIfInBounds_toArray, List.set_cons_zero, List.set_cons_succ]
    refine wpAnyH_done (by kernel_rfl) ?_ _
    have HQ5 := Lib.hid (HQ4.out.kept HKx.out)
    have HK5 := Lib.hid (HK4.out.trans HKx.out)
    clear hHeld
    go_wp2
    refine wp_region_held_drew (S := Kept _) (by kernel_rfl) (Kept.refl _).drew (fun hHeld => ?_)
    refine rg_take (i := 0) (v := (.int .i64 0)) (some 41) rfl rfl (by kernel_rfl) (by kernel_rfl) (by kernel_rfl) (fun _ _ _ h => h) (Or.inl ⟨by rfl, fun _ _ => by go_simp⟩) hHeld ?_
    simp only [Act.put, List.setIfInBounds_toArray, List.set_cons_zero, List.set_cons_succ]
    refine rg_take (i := 1) (v := (.bool true)) (some 42) rfl rfl (by kernel_rfl) (by kernel_rfl) (by kernel_rfl) (fun _ _ _ h => h) (Or.inl ⟨by rfl, fun _ _ => by go_simp⟩) hHeld ?_
    simp only [Act.put, List.setIfInBounds_toArray, List.set_cons_zero, List.set_cons_succ]
    refine rg_take (i := 2) (v := (.bool true)) (some 43) rfl rfl (by kernel_rfl) (by kernel_rfl) (by kernel_rfl) (fun _ _ _ h => h) (Or.inl ⟨by rfl, fun _ _ => by go_simp⟩) hHeld ?_
    simp only [Act.put, List.setIfInBounds_toArray, List.set_cons_zero, List.set_cons_succ]
    refine rg_take (i := 3) (v := (.int .i64 0)) (some 44) rfl rfl (by kernel_rfl) (by kernel_rfl) (by kernel_rfl) (fun _ _ _ h => h) (Or.inl ⟨by rfl, fun _ _ => by go_simp⟩) hHeld ?_
    simp only [Act.put, List.setIfInBounds_toArray, List.set_cons_zero, List.set_cons_succ]
    refine rg_take (i := 4) (v := (.bool true)) (some 45) rfl rfl (by kernel_rfl) (by kernel_rfl) (by kernel_rfl) (fun _ _ _ h => h) (Or.inl ⟨by rfl, fun _ _ => by go_simp⟩) hHeld ?_
    simp only [Act.put, List.setIfInBounds_toArray, List.set_cons_zero, List.set_cons_succ]
    refine rg_take (i := 5) (v := (.bool true)) (some 46) rfl rfl (by kernel_rfl) (by kernel_rfl) (by kernel_rfl) (fun _ _ _ h => h) (Or.inl ⟨by rfl, fun _ _ => by go_simp⟩) hHeld ?_
    simp only [Act.put, List.setIfInBounds_toArray, List.set_cons_zero, List.set_cons_succ]
    refine rg_take (i := 6) (v := (.bool true)) (some 47) rfl rfl (by kernel_rfl) (by kernel_rfl) (by kernel_rfl) (fun _ _ _ h => h) (Or.inl ⟨by rfl, fun _ _ => by go_simp⟩) hHeld ?_
    simp only [Act.put, List.setIfInBounds_toArray, List.set_cons_zero, List.set_cons_succ]
    refine rg_take (i := 7) (some 48) rfl rfl (by kernel_rfl) (by kernel_rfl) (by kernel_rfl) (fun _ _ _ h => h) (take_load_ps (by rfl) _ rfl _ rfl (turnP q) htl.out (fun _ h => (HX.out).kept h)) hHeld ?_
    simp only [Act.put, List.setIfInBounds_toArray, List.set_cons_zero, List.set_cons_succ]
    refine rg_take (i := 8) (some 49) rfl rfl (by kernel_rfl) (by kernel_rfl) (by kernel_rfl) (fun _ _ _ h => h) (take_load_ps (by rfl) _ rfl _ rfl q hql.out (fun _ h => (HQ5.out).kept h)) hHeld ?_
    simp only [Act.put, List.setIfInBounds_toArray, List.set_cons_zero, List.set_cons_succ]
    refine wpAnyH_ready (rs := [9]) (by kernel_rfl) (by simp) ?_
    refine AllReadyH.cons rfl (fun K hK => ?_) AllReadyH.nil
    go_simp
    refine (HC4.out _).mono ?_
    rintro e wy ⟨rfl, gwy⟩
    refine hK.out _ _ (hHeld.trans gwy) (fun _ => ?_)
    replace hHeld := hHeld.trans gwy
    clear hK K
    refine rg_take (i := 10) (some 51) rfl rfl (by kernel_rfl) (by kernel_rfl) (by kernel_rfl) (fun _ _ _ h => h) (take_eql_p (by rfl) _ _ _ rfl (turnP q) (turnP q) rfl rfl (⟨htl.out, htl.out, beqP_refl _⟩)) hHeld ?_
    simp only [Act.put, List.setIfInBounds_toArray, List.set_cons_zero, List.set_cons_succ]
    refine rg_take (i := 11) (v := (.bool true)) (some 52) rfl rfl (by kernel_rfl) (by kernel_rfl) (by kernel_rfl) (fun _ _ _ h => h) (Or.inl ⟨by rfl, fun _ _ => by go_simp⟩) hHeld ?_
    simp only [Act.put, List.setIfInBounds_toArray, List.set_cons_zero, List.set_cons_succ]
    refine rg_take (i := 12) (v := (.bool true)) (some 4) rfl rfl (by kernel_rfl) (by kernel_rfl) (by kernel_rfl) (fun _ _ _ h => h) (Or.inl ⟨by rfl, fun _ _ => by go_simp⟩) hHeld ?_
    simp only [Act.put, List.setIfInBounds_toArray, List.set_cons_zero, List.set_cons_succ]
    refine wpAnyH_done (by kernel_rfl) ?_ _
    go_wp2
    go_ret
    exact ⟨rfl, HK5.out.trans hHeld⟩
theorem walkMoveTurned (p : Ps) (hB : Brd p.B) (m : Mv) (w : World) (hT : TabM w) :
    Calls Tryd.prog 5 #[.agg (pl p).toArray, .agg (ml m).toArray] w fun e w' => e = .returned (.bool true) ∧ Kept w w' := by
  by_cases hv : pwI p = 0
  · cases hf : formB p m
    · exact turned_no p hB m hv hf w hT
    · exact turned_yes p hB m (by unfold okM; rw [hv, hf]; rfl) w hT
  · exact turned_wrong p hB m hv w hT
end Go.Proofs.YtliibpahnkeogaaDoor
